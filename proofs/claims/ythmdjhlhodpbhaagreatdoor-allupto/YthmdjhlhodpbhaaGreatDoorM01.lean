import Derived.Laws.CopyRow
import Derived.Deep.WholeRow
import Derived.Deep.QuietTactic
import Derived.BigQuiet
import Derived.ArgAppend
import Derived.OneCell
import Derived.Laws.BytesArg
import Derived.Great.BuildSlice
import Derived.Laws.AppendOwnNone
import Derived.ProofKit
import Derived.Deep.Slices
import Derived.SizedLaws
import Derived.OpenShut
import Derived.Test.YthmdjhlhodpbhaaGreatDoorM00
import Derived.Test.YthmdjhlhodpbhaaGreatDoorRows
set_option maxHeartbeats 16000000
set_option maxRecDepth 8000
set_option linter.all false
namespace Go.Proofs.YthmdjhlhodpbhaaGreatDoor
open Go.RowKit Go.ChangeAt Go.ChangeShapes Go.Deep Go.WideShapes
open _root_.List renaming replicate → aT, getElem?_eq_getElem → ap, length_replicate → aV, eq_nil_of_length_eq_zero → aW, getElem?_append_left → aZ, drop → a_, set_append_right → bd
open Go.World renaming ownsRow_nil → ak, setRow_alloc_new → bc, size_alloc → az, cell? → aD
open Go.Instr renaming index → aU
open Go.DataW renaming trod → aX
open _root_.Nat renaming eq_zero_or_pos → aY, le_refl → ar, mul_one → ba, zero_le → be
open Go.Value renaming ownBlock → aq, int → bh
open _root_.Or renaming inr → bf, inl → bg
open _root_.Go renaming Value → aM, World → aK, Calls → aL, heap_alloc_last → bi
open _root_.Go.Proofs.Tryz
open _root_.Go.Proofs.Tryz renaming prog → ab
open Go.Value renaming slice → ai
attribute [local simp] CV CI Bw mc lq io
variable {b w:World}{l c0 c1 u x E G H I J z9 z8 c g:Int}{a d cap f:Nat}{e h v:Value}{z y8:TypeId}{o:List Value}{k:List Int}{y3:Addr}{y5:Program}{y1:Act}
theorem Lg(a:aK):(binOp .eql 44 (ai none 0 0) (ai none 0 0)).run ab a=.ok (.bool true) a:=by kernel_rfl
theorem Cu(b:Addr)(d c:Nat)(a:aK):(binOp .eql 44 (ai (some b) d c) (ai none 0 0)).run ab a=.ok (.bool false) a:=by kernel_rfl
theorem F9:madeCells #[.int .u8 0] a=(aT a (bh .u8 0)).toArray:=by
 apply Array.ext
 ·simp[madeCells]
 ·intro i b c;simp[madeCells,Nat.mod_one]
theorem DR:aL ab 112 #[ai none 0 0] b fun a c=>a=.returned (ai none 0 0)/\b=c:=by have d:=Lg;go_enter func112,ntmps112;go_wp2;go_ret;exact⟨rfl,rfl⟩
theorem Io(e:∀(a:Nat) c,(U8 k)[a]? =some c->b.cell? (y3.add a)=some c):
  (Builtin.copy_ #[44,44] 3 #[ai (some (gf b 0)) (k.length+1) (k.length+1),ai (some y3) k.length cap]).run ab (b.alloc (.cells (aT (k.length+1) (bh .u8 0)).toArray 5))
   = .ok (goInt k.length) (b.alloc (.cells (U8 (k++[0])).toArray 5)):=by
 have d:=run_copy_row (P:=ab) (b.alloc (.cells (aT (k.length+1) (bh .u8 0)).toArray 5)) 44 44 3 5 b.heap.size 0 (k.length+1) (k.length+1) y3 k.length cap (aT (k.length+1) (bh .u8 0)).toArray 5 (U8 k) underlying44 (by kernel_rfl)
  (bi b _) (by rw[ir];simp) (fun a c f=>fL (e a c f) (fO _ _)) (by simp[ir]) (ms)
 rw[d,bc,ir,nP];simp[U8]
theorem Az(x:k.length<=140737488355328)(g:∀(m:Nat) a,(U8 k)[m]? =some a->b.cell? (y3.add m)=some a):
  aL ab 112 #[ai (some y3) k.length cap] b fun c o=>∃d,c=.returned (ai (some (Ad d 0)) k.length (k.length+1))/\o.heap[d]? =some (.cells (U8 (k++[77])).toArray 5 (0,0))/\b.heap.size<=d/\Bw b o:=by
 obtain⟨u,hi,q,s,t⟩:=info_parts lE;have l:∀a:aK,(Instr.makeSlice 44 (II ((k.length:Int)+1)) (II ((k.length:Int)+1))).run ab a =
   .ok (ai (some (gf a 0)) (k.length+1) (k.length+1)) (a.alloc (.cells (madeCells #[.int .u8 0] (k.length+1)) 5)):=fun a=>by
  have f:=run_make (P:=ab) a 44 5 u (.int .u8 0) underlying44 hi q .i64 .i64 ((k.length:Int)+1) ((k.length:Int)+1) (by omega) (Int.le_refl _) (by rw[t];omega) (by omega);have c:((k.length:Int)+1).toNat=k.length+1:=by omega
  rw[c]at f;simpa[s,Value.cells] using f
 have j:=F9 (a:=k.length+1);have y:=Cu;rw[j]at l;have h:=Io (cap:=cap) g;clear g j;generalize (aT (k.length+1) (bh .u8 0))=w at l h;have p:(b.alloc (.cells (U8 (k++[0])).toArray 5)).cell? (gf b k.length)=some (.int .u8 0):=by rw[World.cell?_alloc_at _ _ _ _ rfl];simp[U8]
 have e:Hid ((U8 (k++[0])).toArray.setIfInBounds k.length (.int .u8 77)=(U8 (k++[77])).toArray):=by show _=_;rw[List.setIfInBounds_toArray,nP,nP,bd _ _ (by rw[ir];exact ar _),ir,Nat.sub_self];rfl
 generalize (U8 (k++[0])).toArray=v at h p e;go_enter func112,ntmps112;go_wp2;go_ret;refine⟨b.heap.size,rfl,?_,ar _,fO _ _⟩;rw[e.out];exact bi b _
theorem Df:aL ab 114 #[e,ai none 0 0] b fun a c=>a=.returned (.bool true)/\b=c:=by have d:=Lg;go_enter func114,ntmps114;go_wp2;go_ret;exact⟨rfl,rfl⟩
theorem H7(J:gG k)(Q:k.length<=140737488355328)(h:b.heap[d]? =some (.cells (U8 (k++[77])).toArray 5 (0,0)))(H:f<=d)
  (v:∀a,a<k.length->∃l o,y3=Ad l o/\CV b l (o+a) (.int .u8 (k.getD a 0))):
  aL ab 114 #[ai (some (Ad d 0)) k.length (k.length+1),ai (some y3) k.length cap] b fun D L=>D=.returned (.bool true)/\Below f b L:=by
 have R:=Cu;have I:CV b d k.length (.int .u8 77):=by simp[aD,h,U8]
 have x:∀a,a<k.length->b.cell? (Ad d a)=some (.int .u8 (k.getD a 0)):=by intro a n;simp only[aD,h,U8,List.getD,ap n,Option.getD_some];simp[aZ,n]
 have q:=fK v;have t:=fK x;have s:=fK h;clear v x h;go_enter func114,ntmps114;go_wp2;go_loopw [6,7] (fun ok i wr=>∃c g:Nat,c<=k.length/\i=II c/\ok=.bool true/\wr=b.drewN g) (fun _ i _=>k.length-(intOf i).toNat);case atStart=>exact⟨0,0,be _,rfl,rfl,rfl⟩
 case round=>
  obtain⟨c,g,P,rfl,rfl,rfl⟩:=hrel;by_cases y:c<k.length
  ·obtain⟨l,o,rfl,E⟩:=q.out c y;have G:=t.out c y;have K:=iY J c;generalize k.getD c 0=M at E G K;go_wp2;go_quiet (fail);go_wp2;go_roundw;case rel=>exact⟨c+1,_,by omega,by go_num,rfl,rfl⟩
   case measure=>simp[intOf];omega
  ·obtain rfl:c=k.length:=by omega
   have e:(b.drewN g).ownsRow d 5 1 (ai (some (Ad d 0)) (k.length+1) (k.length+1)) (k.length+1) (U8 (k++[77])):=
    ⟨by simp[U8],.inr ⟨d,k.length+1,_,rfl,ar _,s.out,ar _,by unfold maxLen;omega,by simp[U8],by rw[List.take_of_length_le (by simp[U8])]⟩⟩
   have u:Below f b (b.drewN g):=⟨rfl,rfl,rfl,ar _,fun _ _=>rfl⟩;have j:=fK e;clear e q t s I;generalize b.drewN g=S at u j⊢;generalize U8 (k++[77])=T at j;go_wp2;go_loopw [8] (fun i wr=>∃(a:Nat) (A:List aM),a<=k.length+1/\i=II a/\wr.ownsRow d 5 1 (ai (some (Ad d 0)) (k.length+1) (k.length+1)) (k.length+1) A/\Below f b wr) (fun i _=>k.length+1-(intOf i).toNat);case atStart=>exact⟨0,_,be _,rfl,j.out,u⟩
   case round=>
    obtain⟨a,A,n,rfl,e,m⟩:=hrel;by_cases O:a<k.length+1
    ·have w:∃z,wr.cell? (Ad d a)=some z:=by rw[e.cellAt a (by omega)];exact⟨_,ap (by have:=e.1;omega)⟩
     obtain⟨z,w⟩:=w;have N:=e.frozenAt a;have C:=fK (e.stored a (.int .u8 238)).1;have B:=fK (m.setCell (p:=Ad d a) H (.int .u8 238));clear e m;go_wp2;go_roundw;case rel=>exact⟨a+1,_,by omega,by go_num,C.out,B.out⟩
     case measure=>simp[intOf];omega
    ·obtain rfl:a=k.length+1:=by omega
     go_wp2;go_ret;exact⟨rfl,m⟩
abbrev Row(w:aK)(base:Nat)(e:TypeId)(v:aM)(n:Nat)(x:aM):Prop:=w.ownsRow base e 1 v n (aT n x)
theorem AQ{u2:Option Nat}(c:Row b a z e d h)(f:b.grownBy w u2)(g:e.ownBlock=none\/e.ownBlock≠u2):Row w a z e d h:=World.ownsRow.kept c f g
theorem G0(g:o.take a=aT a e)(k:o.take f=aT f e):
  (o.take a++aT d e++o.drop (a+d)).take f=aT f e:=by
 apply List.ext_getElem?;intro b;rw[List.getElem?_take,List.getElem?_replicate];by_cases c:b<f
 ·rw[if_pos c,if_pos c,g];by_cases h:b<a
  ·grind
  ·by_cases j:b<a+d
   ·grind
   ·rw[List.getElem?_append_right (by simp;omega),List.getElem?_drop];simp only[List.length_append,aV];rw[show a+d+(b-(a+d))=b from by omega];have:(o.take f)[b]? =some e:=by grind
    rw[List.getElem?_take,if_pos c]at this;exact this
 grind
section
variable {P:Program}
theorem xd(f:aK)(v:Nat)(p C d:TypeId)(i:TypeInfo)(D:aM)(w:Nat)(H:P.underlying p=some (.slice d))(hi:P.info? d=some i)(a0:i.zero=some D)
  (B:i.size=1) (O:i.bytes=w) (a1:D.cells.size=1) (b:aM) (b5:b.oneCell'=true) (J:aM) (e:Nat) (W:Row f v d J e b)
  (s:Addr) (a x:Nat) (G:∀(a2:Nat) h,(aT a b)[a2]? =some h->f.cell? (s.add a2)=some h) (L:e+a<=maxLen) (Q:(e+a)*w<=140737488355328) (M:v<=f.heap.size):
  ∃q m,(Builtin.append_ #[p,p] C #[J,ai (some s) a x]).run P f=.ok q m/\Row m v d q (e+a) b/\f.grownBy m J.ownBlock/\(∀k h c,Row f k d h c b->Row m k d h c b):=by
 have V:∀h∈aT a b,h.oneCell'=true:=by grind
 have a9:aT e b++aT a b=aT (e+a) b:=by rw[List.replicate_append_replicate]
 rcases W.2 with⟨rfl,rfl⟩|⟨g,cap,j,rfl,a5,z,b3,a6,a7,Z⟩
 ·obtain⟨q,m,o,y,l,_⟩:=run_append_own (P:=P) f v p C d i D 1 w H hi a0 B O a1 (by decide) (ai none 0 0) 0 [] (ak f _ d 1) s a x (aT a b) (by simp) G V L Q M;refine⟨q,m,o,by simpa using y,l,fun k h c u=>AQ u l (by cases h.ownBlock<;>simp[aq])⟩
 ·rw[ba]at a7 Z;by_cases X:e+a<=cap
  ·have o:=run_append_room (P:=P) f p C d i H hi g e cap j z s a x (aT a b) (by simp[B]) G V X (by grind);rw[B,ba,aV]at o;have b2:e+a<=j.toList.length:=by simp;omega
   have Y:(j.toList.take e++aT a b++j.toList.drop (e+a)).toArray.size=j.size:=by grind
   have b1:∀k n c,k<=g->c<=n->n<=maxLen->j.size=n->j.toList.take c=aT c b->Row (f.setRow g (j.toList.take e++aT a b++j.toList.drop (e+a)).toArray) k d (nr g c n) c b:=by intro k n c a4 t a8 b4 b0;refine⟨by simp,.inr ⟨g,n,_,rfl,a4,setRow_heap f g j _ d _ z,t,a8,by rw[Y];omega,?_⟩⟩;rw[ba];exact G0 Z b0
   refine⟨_,_,o,?_,⟨rfl,rfl,rfl,by simp[World.setRow],fun c _ t=>setRow_other f g c _ (fun d=>t (by simp[d,aq]))⟩,?_⟩
   ·refine⟨by simp,.inr ⟨g,cap,_,rfl,a5,setRow_heap f g j _ d _ z,X,a6,by rw[Y];omega,?_⟩⟩;grind
   ·intro k h c u;rcases u.2 with⟨rfl,rfl⟩|⟨E,K,a3,rfl,N,A,U,R,S,I⟩
    ·exact ak _ _ _ _
    ·rw[ba]at S I;by_cases T:E=g
     ·subst T;rw[z]at A;simp only[Option.some.injEq,Obj.cells.injEq]at A;obtain⟨rfl,_⟩:=A;exact b1 k K c N U R S I
     ·refine⟨by simp,.inr ⟨E,K,a3,rfl,N,by rw[setRow_other f g E _ T];exact A,U,R,by omega,by rw[ba];exact I⟩⟩
  ·obtain⟨q,m,o,y,l⟩:=run_append_arg_grows (P:=P) f p C d i D 1 w H hi a0 B O a1 (by decide) (Ad g 0) e cap (aT e b) (by simp) (W.cells rfl) s a x (aT a b) (by simp) G (by omega) L Q;rw[a9]at y;exact⟨q,m,o,gq y M,⟨l.os,l.tape,l.output,l.size,fun c t _=>l.block c t (by simp)⟩,fun k h c u=>AQ u l (by cases h.ownBlock<;>simp)⟩
end
def rN(k:Nat):Int:=101+(k:Int)/4%97
theorem DU:101<=rN a/\rN a<198:=by unfold rN;omega
theorem gB(f:b.ownsRow a z 1 e d o):∃c cap,e=.slice c d cap:=by
 rcases f.2 with⟨rfl,rfl⟩|⟨h,cap,g,rfl,_⟩
 ·grind
 grind
theorem te(h:b.ownsRow a z 1 e d o)(g:e.ownBlock=some f):∃c,b.heap[f]? =some (.cells c z (0,0)):=by
 rcases h.2 with⟨rfl,rfl⟩|⟨j,cap,c,rfl,_,k,_⟩
 ·simp[aq]at g
 ·simp[aq]at g;grind
theorem Jd{n:Nat}{y:List aM}(g:b.ownsRow a z 1 e f o)(j:b.ownsRow d y8 1 h n y)(s:z≠y8):e.ownBlock=none\/e.ownBlock≠h.ownBlock:=by
 cases k:e.ownBlock with
 |none=>exact bg rfl
 |some q=>refine bf fun c=>?_;obtain⟨c1,m⟩:=te g k;obtain⟨l,p⟩:=te j c.symm;grind
theorem zx{D:Array aM}{x3:Nat×Nat}(c:b.ownsRow a z 1 e d o)(k:b.heap[f]? =some (.cells D y8 x3))(j:z≠y8):e.ownBlock≠some f:=by intro g;obtain⟨c1,h⟩:=te c g;grind
theorem JI(c:o.length=d)(b:a<d):(aT a e++o.drop a).set a e=aT (a+1) e++o.drop (a+1):=by rw[bd _ _ (by simp),aV,Nat.sub_self];rw[List.drop_eq_getElem_cons (by omega:a<o.length)];rw[List.set_cons_zero,List.replicate_succ',List.append_assoc];rfl
theorem FX:(ab.info? 44).map (fun i=>(i.zero,i.size,i.bytes))=some (some (ai none 0 0),1,24):=by kernel_rfl
theorem rx(b:a%4=0)(c:d<4):rN (a+d)=rN a:=by unfold rN;omega
def yA(c0 c1 c2 c3:Int):Bool:=jx c0 1 8&&(jx c1 8 4096&&(jx c2 8 c1&&jx c3 1 8))
def yB(c4 c5 c6 c7:Int):Bool:=jx c4 1 8&&(jx c5 0 8&&(jx c6 1 1000&&jx c7 1 1000))
def kB(c0 c1 c2 c3 c4 c5 c6 c7 c8 c9:Int):Bool:=yA c0 c1 c2 c3&&(yB c4 c5 c6 c7&&(jx c8 0 100000&&jx c9 0 4294967295))
theorem lG:
  aL ab 59 #[.agg (th c0 c1 l u x E G H I J)] b fun a d=>a=.returned (.bool (kB c0 c1 l u x E G H I J))/\Bw b d:=by
 have c:=fO b (.cells (th c0 c1 l u x E G H I J) 26);have e:=fK c;clear c;go_enter func59,ntmps59;go_wp2_with (go_at_call 60;refine(h_ _ _ _ _).mono ?_;rintro a d ⟨rfl,rfl⟩);all_goals go_ret
 all_goals exact⟨yz (by simp[kB,yA,yB, *]),e.out⟩
def oQ(c0 c1 c2 c3 c4 c5 c6 c7 c8 c9:Int):Nat->Int
 |0=>c0
 |1=>c1
 |2=>c2
 |3=>c3
 |4=>c4
 |5=>c5
 |6=>c6
 |7=>c7
 |8=>c8
 |_=>c9
def tn:Nat->Int
 |0=>1
 |1=>8
 |2=>8
 |3=>1
 |4=>1
 |5=>0
 |6=>1
 |7=>1
 |8=>0
 |_=>0
def tm(c1:Int):Nat->Int
 |0=>8
 |1=>4096
 |2=>c1
 |3=>8
 |4=>8
 |5=>8
 |6=>1000
 |7=>1000
 |8=>100000
 |_=>4294967295
def Jc(c0 c1 c2 c3 c4 c5 c6 c7 c8 c9:Int)(k:Nat):Bool:=jx (oQ c0 c1 c2 c3 c4 c5 c6 c7 c8 c9 k) (tn k) (tm c1 k)
def pi(c0 c1 c2 c3 c4 c5 c6 c7 c8 c9:Int):Int:=if kB c0 c1 c2 c3 c4 c5 c6 c7 c8 c9 then 0 else 1
theorem Kz(a:∀b,b<10->Jc c0 c1 l u x E G H I J b=true):pi c0 c1 l u x E G H I J=0:=by have c:=a 0 (by decide);have d:=a 1 (by decide);have e:=a 2 (by decide);have f:=a 3 (by decide);have g:=a 4 (by decide);have h:=a 5 (by decide);have j:=a 6 (by decide);have k:=a 7 (by decide);have m:=a 8 (by decide);have n:=a 9 (by decide);simp only[Jc,oQ,tn,tm]at c d e f g h j k m n;simp[pi,kB,yA,yB, *]
theorem KA(c:a<10)(b:Jc c0 c1 l u x E G H I J a=false):pi c0 c1 l u x E G H I J=1:=by
 match a,c with
 |0,_|1,_|2,_|3,_|4,_|5,_|6,_|7,_|8,_|9,_=>simp only[Jc,oQ,tn,tm]at b;simp[pi,kB,yA,yB,b]
theorem xv{a:IntKind}(b:c=g):Ending.returned (.int a c)=.returned (.int a g):=by rw[b]
theorem JV{u8:Nat->Bool}(c:∀b,b<a->u8 b=true)(d:u8 a=true):∀b,b<a+1->u8 b=true:=by grind
theorem wk{x8:Array Oper}{rest:List Oper}{y2:Oper}{z1:Exit->Act->aK->Prop}(h:y2.guard=none)(c d:Operand)(k:y2.op=.store z c d)(g:y2.dst=none)
  {cells:Array aM} {a:Nat} (j:a=b.heap.size) (m:y1.eval c=Pt a) (n:y1.eval d=.agg cells)
  {y8:TypeId} {pT:Array aM} (hi:(y5.info? z).map (·.size)=some cells.size) (l:pT.size=cells.size) (f:cells.all (·.oneCell')=true)
  (e:wpList y5 x8 z1 rest y1 (b.alloc (.cells cells y8))):wpList y5 x8 z1 (y2::rest) y1 (b.alloc (.cells pT y8)):=by
 subst j;refine wpList_store_row h z c d k b.heap.size cells m n y8 pT (bi b _) hi l f ?_;rw[g,bc];exact e
theorem K1{u9 a:Obj}:((b.alloc u9).alloc a).heap[b.heap.size+1]? =some a:=by have:=bi (b.alloc u9) a;rwa [az]at this
def jK(c0 c1 c2 c3 c4 c5 c6 c7 c8 c9:Int):Array aM:=
 #[II c0,II 1,II 8,II c1,II 8,II 4096,II c2,II 8,II c1,II c3,II 1,II 8,II c4,II 1,II 8,
  II c5,II 0,II 8,II c6,II 1,II 1000,II c7,II 1,II 1000,II c8,II 0,II 100000,II c9,II 0,II 4294967295]
theorem zt:(jK c0 c1 l u x E G H I J).all (·.oneCell')=true:=by kernel_rfl
theorem wD:(ab.info? 171).map (·.size)=some 30:=by kernel_rfl
theorem IP:(aU 171 (.agg (jK c0 c1 l u x E G H I J)) (II ((0:Nat):Int))).run ab b=.ok (.agg #[II (oQ c0 c1 l u x E G H I J 0),II (tn 0),II (tm c1 0)]) b:=by kernel_rfl
theorem IQ:(aU 171 (.agg (jK c0 c1 l u x E G H I J)) (II ((1:Nat):Int))).run ab b=.ok (.agg #[II (oQ c0 c1 l u x E G H I J 1),II (tn 1),II (tm c1 1)]) b:=by kernel_rfl
theorem IU:(aU 171 (.agg (jK c0 c1 l u x E G H I J)) (II ((2:Nat):Int))).run ab b=.ok (.agg #[II (oQ c0 c1 l u x E G H I J 2),II (tn 2),II (tm c1 2)]) b:=by kernel_rfl
theorem IV:(aU 171 (.agg (jK c0 c1 l u x E G H I J)) (II ((3:Nat):Int))).run ab b=.ok (.agg #[II (oQ c0 c1 l u x E G H I J 3),II (tn 3),II (tm c1 3)]) b:=by kernel_rfl
theorem IW:(aU 171 (.agg (jK c0 c1 l u x E G H I J)) (II ((4:Nat):Int))).run ab b=.ok (.agg #[II (oQ c0 c1 l u x E G H I J 4),II (tn 4),II (tm c1 4)]) b:=by kernel_rfl
theorem IX:(aU 171 (.agg (jK c0 c1 l u x E G H I J)) (II ((5:Nat):Int))).run ab b=.ok (.agg #[II (oQ c0 c1 l u x E G H I J 5),II (tn 5),II (tm c1 5)]) b:=by kernel_rfl
theorem IY:(aU 171 (.agg (jK c0 c1 l u x E G H I J)) (II ((6:Nat):Int))).run ab b=.ok (.agg #[II (oQ c0 c1 l u x E G H I J 6),II (tn 6),II (tm c1 6)]) b:=by kernel_rfl
theorem IZ:(aU 171 (.agg (jK c0 c1 l u x E G H I J)) (II ((7:Nat):Int))).run ab b=.ok (.agg #[II (oQ c0 c1 l u x E G H I J 7),II (tn 7),II (tm c1 7)]) b:=by kernel_rfl
theorem I0:(aU 171 (.agg (jK c0 c1 l u x E G H I J)) (II ((8:Nat):Int))).run ab b=.ok (.agg #[II (oQ c0 c1 l u x E G H I J 8),II (tn 8),II (tm c1 8)]) b:=by kernel_rfl
theorem I1:(aU 171 (.agg (jK c0 c1 l u x E G H I J)) (II ((9:Nat):Int))).run ab b=.ok (.agg #[II (oQ c0 c1 l u x E G H I J 9),II (tn 9),II (tm c1 9)]) b:=by kernel_rfl
theorem K8(c:a<10)(b:aK):
  (aU 171 (.agg (jK c0 c1 l u x E G H I J)) (II a)).run ab b=.ok (.agg #[II (oQ c0 c1 l u x E G H I J a),II (tn a),II (tm c1 a)]) b:=by
 match a,c with
 |0,_=>exact IP
 |1,_=>exact IQ
 |2,_=>exact IU
 |3,_=>exact IV
 |4,_=>exact IW
 |5,_=>exact IX
 |6,_=>exact IY
 |7,_=>exact IZ
 |8,_=>exact I0
 |9,_=>exact I1
set_option maxRecDepth 20000 in
theorem oo:
  aL ab 52 #[.agg (th c0 c1 l u x E G H I J)] b fun d j=>d=.returned (II (pi c0 c1 l u x E G H I J))/\Bw b j:=by
 go_enter func52,ntmps52;go_wp2_with (first
  |(refine wpList_buildTo rfl 171 _ rfl _ rfl (jK c0 c1 l u x E G H I J) (by kernel_rfl) ?_)
  |(refine wk rfl (z:=171) _ _ rfl rfl (cells:=jK c0 c1 l u x E G H I J) (by simp) rfl rfl (y8:=171) wD rfl (zt) ?_)
  |(refine wpList_load_row rfl 171 _ rfl _ rfl 171 (jK c0 c1 l u x E G H I J) (0,0) _ (K1 (b:=b)) underlying171 rfl wD ?_))
 go_loopw [40] (fun i wr=>∃a:Nat,a<=10/\i=II a/\Hid (∀g,g<a->Jc c0 c1 l u x E G H I J g=true)/\Bw b wr) (fun i _=>10-(intOf i).toNat);case atStart=>exact⟨0,be _,rfl,fun g v=>by omega,((fO b _).alloc (by simp) _)⟩
 case round=>
  obtain⟨a,w,rfl,o,f⟩:=hrel;by_cases n:a<10
  ·have p:=f.size;have k:Hid (∀h,Bw b (wr.alloc h)):=fun h=>f.alloc p h;have e:=K8 (c0:=c0) (c1:=c1) (l:=l) (u:=u) (x:=x) (E:=E) (G:=G) (H:=H) (I:=I) (J:=J) (a:=a) n;have c:Hid (Jc c0 c1 l u x E G H I J a=jx (oQ c0 c1 l u x E G H I J a) (tn a) (tm c1 a)):=rfl;generalize oQ c0 c1 l u x E G H I J a=s at e c;generalize tn a=q at e c;generalize tm c1 a=hi at e c;cases m:jx s q hi
   ·go_wp2_with (go_at_call 101;refine(ri).mono ?_;rintro d j ⟨rfl,rfl⟩);go_ret;exact⟨xv (KA (a:=a) n (c.out.trans m)).symm,k.out _⟩
   ·go_wp2_with (go_at_call 101;refine(ri).mono ?_;rintro d j ⟨rfl,rfl⟩);go_roundw;case rel=>exact⟨a+1,by omega,by go_num,JV o.out (c.out.trans m),k.out _⟩
    case measure=>simp[intOf];omega
  ·obtain rfl:a=10:=by omega
   go_wp2_with fail;go_ret;exact⟨xv (Kz o.out).symm,f⟩
def xb(a b c:Int):Int:=if a=0 then(if b=0 then c else b) else a
def qP(a b c:Int):Nat->Int
 |0=>a
 |1=>b
 |_=>c
theorem Og(j:a<3)(e:∀h,h<a->qP c g l h=0)(d:qP c g l a≠0):qP c g l a=xb c g l:=by
 match a,j with
 |0,_=>simp only[qP]at d⊢;simp[xb,d]
 |1,_=>have b:=e 0 (by decide);simp only[qP]at d b⊢;simp[xb,d,b]
 |2,_=>have b:=e 0 (by decide);have f:=e 1 (by decide);simp only[qP]at d b f⊢;simp[xb,b,f]
theorem Ll(a:∀f,f<3->qP c g l f=0):(0:Int)=xb c g l:=by have b:=a 0 (by decide);have d:=a 1 (by decide);have e:=a 2 (by decide);simp only[qP]at b d e;simp[xb,b,d,e]
theorem JW{c:Nat->Int}(d:∀b,b<a->c b=0)(e:c a=0):∀b,b<a+1->c b=0:=by grind
theorem Ih(o:CI b a 0 c)(p:CI b a 1 g)(q:CI b a 2 l):
  aL ab 65 #[ai (some (Ad a 0)) 3 3] b fun u w=>u=.returned (II (xb c g l))/\b=w:=by
 have s:Hid (∀e,e<3->b.cell? (Ad a e)=some (II (qP c g l e))):=by
  intro e m;match e,m with
  |0,_=>exact o
  |1,_=>exact p
  |2,_=>exact q
 clear o p q;go_enter func65,ntmps65;go_wp2;go_loop [8] (fun i=>∃d:Nat,d<=3/\i=II d/\Hid (∀e,e<d->qP c g l e=0)) (fun i=>3-(intOf i).toNat);case atStart=>exact⟨0,be _,rfl,fun e m=>by omega⟩
 case round=>
  obtain⟨d,y,rfl,h⟩:=hrel;by_cases n:d<3
  ·have k:=s.out d n;by_cases f:qP c g l d=0
   ·have t:=fK f;rw[f]at k;clear f;go_wp2;go_round;case rel=>exact⟨d+1,by omega,by go_num,JW h.out t.out⟩
    case measure=>simp[intOf];omega
   ·have j:Hid (qP c g l d=xb c g l):=Og n h.out f;generalize qP c g l d=v at k f j;have x:(v != 0)=true:=by simp[f]
    go_wp2;go_ret;exact⟨xv j.out,rfl⟩
  ·obtain rfl:d=3:=by omega
   go_wp2;go_ret;exact⟨xv (Ll h.out),rfl⟩
def rW(c0 c1 c2 c3 c4 c5 c6 c7 c8 k a t:Int):Int:=xb (pi c0 c1 c2 c3 c4 c5 c6 c7 c8 k) (lr a 255) (lr t 4294967295)
def yR(c0 c1 c2 c3 c4 c5 c6 c7 c8 k a t:Int):List Int:=if rW c0 c1 c2 c3 c4 c5 c6 c7 c8 k a t=0 then jg k a t else []
def rU(c0 c1 c2 c3 c4 c5 c6 c7 c8 k a c:Int):Int:=xb (pi c0 c1 c2 c3 c4 c5 c6 c7 c8 k) (lr a 255) (lr c 1073741823)
def Gm(c0 c1 c2 c3 c4 c5 c6 c7 c8 k a c:Int):Int:=if rU c0 c1 c2 c3 c4 c5 c6 c7 c8 k a c=0 then i_ k a c else 0
theorem tg(a:kB c0 c1 l u x E G H I J=true):0<=J/\J<4294967296:=by unfold kB at a;simp only[Bool.and_eq_true]at a;have:=lh a.2.2.2;omega
theorem AY(a:aK):aL ab 34 #[] a fun b c=>b=.returned (.agg #[II 2,II 16,II 8,II 2,II 2,II 1,II 10,II 5,II 1000,II 0])/\Bw a c:=by go_enter func34,ntmps34;go_wp2;exact bodyPost_ret (v:=.agg #[II 2,II 16,II 8,II 2,II 2,II 1,II 10,II 5,II 1000,II 0]) (by simp[results,Tryz.results34,go_sem]) rfl ⟨rfl,fO _ _⟩
theorem JR(a:rW c0 c1 l u x E G H I J z9 z8=0):kB c0 c1 l u x E G H I J=true/\jx z9 0 255=true/\jx z8 0 4294967295=true:=by unfold rW xb pi lr at a;cases b:kB c0 c1 l u x E G H I J<;>cases c:jx z9 0 255<;>cases d:jx z8 0 4294967295<;>simp[b,c,d]at a⊢
theorem Jj(a:rU c0 c1 l u x E G H I J z9 z8=0):kB c0 c1 l u x E G H I J=true/\jx z9 0 255=true/\jx z8 0 1073741823=true:=by unfold rU xb pi lr at a;cases b:kB c0 c1 l u x E G H I J<;>cases c:jx z9 0 255<;>cases d:jx z8 0 1073741823<;>simp[b,c,d]at a⊢
theorem LR(a:kB c0 c1 l u x E G H I J=false):rW c0 c1 l u x E G H I J z9 z8=1:=by simp[rW,xb,pi,a]
theorem EK(b:kB c0 c1 l u x E G H I J=true)(a:jx z9 0 255=false\/jx z8 0 4294967295=false):rW c0 c1 l u x E G H I J z9 z8=2:=by
 rcases a with a|a
 ·simp[rW,xb,pi,lr,b,a]
 ·cases c:jx z9 0 255<;>simp[rW,xb,pi,lr,b,a,c]
theorem LQ(a:kB c0 c1 l u x E G H I J=true)(b:jx z9 0 255=true)(c:jx z8 0 4294967295=true):rW c0 c1 l u x E G H I J z9 z8=0:=by simp[rW,xb,pi,lr,a,b,c]
theorem Lp(a:kB c0 c1 l u x E G H I J=false):rU c0 c1 l u x E G H I J z9 z8=1:=by simp[rU,xb,pi,a]
theorem Ee(b:kB c0 c1 l u x E G H I J=true)(a:jx z9 0 255=false\/jx z8 0 1073741823=false):rU c0 c1 l u x E G H I J z9 z8=2:=by
 rcases a with a|a
 ·simp[rU,xb,pi,lr,b,a]
 ·cases c:jx z9 0 255<;>simp[rU,xb,pi,lr,b,a,c]
theorem Lo(a:kB c0 c1 l u x E G H I J=true)(b:jx z9 0 255=true)(c:jx z8 0 1073741823=true):rU c0 c1 l u x E G H I J z9 z8=0:=by simp[rU,xb,pi,lr,a,b,c]
theorem yS(a:rW c0 c1 l u x E G H I J z9 z8=0):yR c0 c1 l u x E G H I J z9 z8=jg J z9 z8:=by simp[yR,a]
theorem xx(a:¬rW c0 c1 l u x E G H I J z9 z8=0):yR c0 c1 l u x E G H I J z9 z8=[]:=by simp[yR,a]
theorem Ef(a:rU c0 c1 l u x E G H I J z9 z8=0):Gm c0 c1 l u x E G H I J z9 z8=i_ J z9 z8:=by simp[Gm,a]
theorem xu(a:¬rU c0 c1 l u x E G H I J z9 z8=0):Gm c0 c1 l u x E G H I J z9 z8=0:=by simp[Gm,a]
theorem kP(a:Below (b.alloc (.cells (th c0 c1 l u x E G H I J) 26)).heap.size (b.alloc (.cells (th c0 c1 l u x E G H I J) 26)) w):
  (∀d,(w.alloc d).cell? (gf b 9)=some (II J))/\(∀c,c<10->w.cell? (gf b c)=(b.alloc (.cells (th c0 c1 l u x E G H I J) 26)).cell? (gf b c))/\Bw b w/\b.heap.size<w.heap.size:=by
 have e:=a.size;simp only[az]at e;refine⟨fun d=>?_,fun c f=>?_,fP (fO _ _) a,by omega⟩
 ·rw[World.cell?_alloc_lt _ _ _ (by grind),a.cell (by simp)];simp
 ·rw[a.cell (by simp)]
theorem sW:aL ab 65 #[ai (some (gf b 0)) 3 3] (b.alloc (.cells #[II c,II g,II l] 35)) fun a d=>a=.returned (II (xb c g l))/\b.alloc (.cells #[II c,II g,II l] 35)=d:=
 Ih (by simp) (by simp) (by simp)
theorem HS:
  aL ab 37 #[.agg (th c0 c1 l u x E G H I J),II z9,II z8] b
   fun a d=>∃g,a=.returned (.tuple #[g,II (rW c0 c1 l u x E G H I J z9 z8)])/\d.ownsRow b.heap.size 5 1 g (yR c0 c1 l u x E G H I J z9 z8).length (U8 (yR c0 c1 l u x E G H I J z9 z8))/\Bw b d:=by
 by_cases c:rW c0 c1 l u x E G H I J z9 z8=0
 ·obtain⟨o,h,p⟩:=JR c;obtain⟨z,A⟩:=tg o;obtain⟨t,K⟩:=lh h;obtain⟨B,M⟩:=lh p;rw[yS c];have s:=fK c;have m:xb (pi c0 c1 l u x E G H I J) (lr z9 255) (lr z8 4294967295)=0:=c;clear c o h p;go_enter func37,ntmps37;go_wp2_with fail;refine(oo).mono ?_;rintro a C ⟨rfl,f⟩;obtain⟨k,_,e,y⟩:=kP f;clear f;go_wp2_with (first |(go_at_call 47;refine(nz).mono ?_;rintro a d ⟨rfl,rfl⟩) |(go_at_call 66;refine(Ag).mono ?_;rintro a d ⟨rfl,rfl⟩) |(go_at_call 65;refine(sW).mono ?_;rintro a d ⟨rfl,rfl⟩));refine(un _ _ _ _ z A t (by omega) B (by omega)).mono ?_;rintro a D ⟨g,rfl,n,j⟩;have v:Bw b D:=fP (e.alloc e.size _) j;have w:=gq n (e.alloc e.size (.cells #[II (pi c0 c1 l u x E G H I J),II (lr z9 255),II (lr z8 4294967295)] 35)).size;clear n j k;go_wp2_with fail;go_ret2;exact⟨g,by rw[s.out];rfl,w,v⟩
 ·rw[xx c];have m:xb (pi c0 c1 l u x E G H I J) (lr z9 255) (lr z8 4294967295)=rW c0 c1 l u x E G H I J z9 z8:=rfl;generalize rW c0 c1 l u x E G H I J z9 z8=q at m c⊢;have L:(q != 0)=true:=by simp[c]
  go_enter func37,ntmps37;go_wp2_with fail;refine(oo).mono ?_;rintro a C ⟨rfl,f⟩;obtain⟨k,_,e,y⟩:=kP f;clear f;go_wp2_with (first |(go_at_call 47;refine(nz).mono ?_;rintro a d ⟨rfl,rfl⟩) |(go_at_call 66;refine(Ag).mono ?_;rintro a d ⟨rfl,rfl⟩) |(go_at_call 65;refine(sW).mono ?_;rintro a d ⟨rfl,rfl⟩));go_ret2;exact⟨_,rfl,ak _ _ _ _,e.alloc e.size _⟩
theorem HM:
  aL ab 57 #[.agg (th c0 c1 l u x E G H I J),II z9,II z8] b
   fun a d=>a=.returned (.tuple #[II (Gm c0 c1 l u x E G H I J z9 z8),II (rU c0 c1 l u x E G H I J z9 z8)])/\Bw b d:=by
 by_cases c:rU c0 c1 l u x E G H I J z9 z8=0
 ·obtain⟨m,g,n⟩:=Jj c;obtain⟨v,w⟩:=tg m;obtain⟨q,B⟩:=lh g;obtain⟨y,D⟩:=lh n;rw[Ef c];have p:=fK c;have k:xb (pi c0 c1 l u x E G H I J) (lr z9 255) (lr z8 1073741823)=0:=c;clear c m g n;go_enter func57,ntmps57;go_wp2_with fail;refine(oo).mono ?_;rintro a z ⟨rfl,e⟩;obtain⟨j,_,f,t⟩:=kP e;clear e;go_wp2_with (first |(go_at_call 47;refine(nz).mono ?_;rintro a d ⟨rfl,rfl⟩) |(go_at_call 103;refine(ni).mono ?_;rintro a d ⟨rfl,rfl⟩) |(go_at_call 65;refine(sW).mono ?_;rintro a d ⟨rfl,rfl⟩));refine(yY v w q (by omega) y (by omega)).mono ?_;rintro a A ⟨rfl,h⟩;have s:Bw b A:=fP (f.alloc f.size _) h;clear h j;go_wp2_with fail;go_ret2;exact⟨by rw[p.out];rfl,s⟩
 ·rw[xu c];have k:xb (pi c0 c1 l u x E G H I J) (lr z9 255) (lr z8 1073741823)=rU c0 c1 l u x E G H I J z9 z8:=rfl;generalize rU c0 c1 l u x E G H I J z9 z8=o at k c⊢;have C:(o != 0)=true:=by simp[c]
  go_enter func57,ntmps57;go_wp2_with fail;refine(oo).mono ?_;rintro a z ⟨rfl,e⟩;obtain⟨j,_,f,t⟩:=kP e;clear e;go_wp2_with (first |(go_at_call 47;refine(nz).mono ?_;rintro a d ⟨rfl,rfl⟩) |(go_at_call 103;refine(ni).mono ?_;rintro a d ⟨rfl,rfl⟩) |(go_at_call 65;refine(sW).mono ?_;rintro a d ⟨rfl,rfl⟩));go_ret2;exact⟨rfl,f.alloc f.size _⟩
theorem yu:
  aL ab 33 #[.agg (th c0 c1 l u x E G H I J),II z9,II z8] b
   fun f j=>∃k,f=.returned (.tuple #[k,II (rW c0 c1 l u x E G H I J z9 z8)])/\j.ownsRow b.heap.size 5 1 k (yR c0 c1 l u x E G H I J z9 z8).length (U8 (yR c0 c1 l u x E G H I J z9 z8))/\Bw b j:=by
 cases h:kB c0 c1 l u x E G H I J
 ·have a:=LR (z9:=z9) (z8:=z8) h;rw[xx (by rw[a];decide),a];clear a;go_enter func33,ntmps33;go_wp2_with fail;refine(lG).mono ?_;rintro f c ⟨rfl,d⟩;obtain⟨_,_,g,n⟩:=kP d;clear d;go_wp2_with fail;go_ret2;exact⟨_,rfl,ak _ _ _ _,g⟩
 cases m:jx z9 0 255
 ·have a:=EK (z8:=z8) h (bg m);rw[xx (by rw[a];decide),a];clear a;go_enter func33,ntmps33;go_wp2_with fail;refine(lG).mono ?_;rintro f c ⟨rfl,d⟩;obtain⟨_,_,g,n⟩:=kP d;clear d;go_wp2_with (go_at_call 60;refine(h_ _ _ _ _).mono ?_;rintro f j ⟨rfl,rfl⟩);go_ret2;exact⟨_,rfl,ak _ _ _ _,g⟩
 cases o:jx z8 0 4294967295
 ·have a:=EK (z9:=z9) h (bf o);rw[xx (by rw[a];decide),a];clear a;go_enter func33,ntmps33;go_wp2_with fail;refine(lG).mono ?_;rintro f c ⟨rfl,d⟩;obtain⟨_,_,g,n⟩:=kP d;clear d;go_wp2_with (go_at_call 60;refine(h_ _ _ _ _).mono ?_;rintro f j ⟨rfl,rfl⟩);go_ret2;exact⟨_,rfl,ak _ _ _ _,g⟩
 ·have a:=LQ h m o;rw[yS a,a];clear a;obtain⟨w,y⟩:=tg h;obtain⟨s,R⟩:=lh m;obtain⟨P,S⟩:=lh o;go_enter func33,ntmps33;go_wp2_with fail;refine(lG).mono ?_;rintro f c ⟨rfl,d⟩;obtain⟨_,e,g,n⟩:=kP d;have z:c.cell? (gf b 0)=some (II c0):=by rw[e 0 (by decide)];simp
  have A:c.cell? (gf b 1)=some (II c1):=by rw[e 1 (by decide)];simp
  have B:c.cell? (gf b 2)=some (II l):=by rw[e 2 (by decide)];simp
  have C:c.cell? (gf b 3)=some (II u):=by rw[e 3 (by decide)];simp
  have D:c.cell? (gf b 4)=some (II x):=by rw[e 4 (by decide)];simp
  have K:c.cell? (gf b 5)=some (II E):=by rw[e 5 (by decide)];simp
  have L:c.cell? (gf b 6)=some (II G):=by rw[e 6 (by decide)];simp
  have M:c.cell? (gf b 7)=some (II H):=by rw[e 7 (by decide)];simp
  have N:c.cell? (gf b 8)=some (II I):=by rw[e 8 (by decide)];simp
  have O:c.cell? (gf b 9)=some (II J):=by rw[e 9 (by decide)];simp
  clear d e;go_wp2_with (go_at_call 60;refine(h_ _ _ _ _).mono ?_;rintro f j ⟨rfl,rfl⟩);refine(uh w y s (by omega) P (by omega)).mono ?_;rintro f Q ⟨k,rfl,q,p⟩;have t:Bw b Q:=fP g p;have v:=gq q g.size;clear q p z A B C D K L M N O;go_wp2_with fail;go_ret2;exact⟨k,rfl,v,t⟩
theorem Gs:
  aL ab 115 #[.agg (th c0 c1 l u x E G H I J),II z9,II z8] b
   fun f j=>f=.returned (.tuple #[II (Gm c0 c1 l u x E G H I J z9 z8),II (rU c0 c1 l u x E G H I J z9 z8)])/\Bw b j:=by
 cases h:kB c0 c1 l u x E G H I J
 ·have a:=Lp (z9:=z9) (z8:=z8) h;rw[xu (by rw[a];decide),a];clear a;go_enter func115,ntmps115;go_wp2_with fail;refine(lG).mono ?_;rintro f c ⟨rfl,d⟩;obtain⟨_,_,g,m⟩:=kP d;clear d;go_wp2_with fail;go_ret2;exact⟨rfl,g⟩
 cases k:jx z9 0 255
 ·have a:=Ee (z8:=z8) h (bg k);rw[xu (by rw[a];decide),a];clear a;go_enter func115,ntmps115;go_wp2_with fail;refine(lG).mono ?_;rintro f c ⟨rfl,d⟩;obtain⟨_,_,g,m⟩:=kP d;clear d;go_wp2_with (go_at_call 60;refine(h_ _ _ _ _).mono ?_;rintro f j ⟨rfl,rfl⟩);go_ret2;exact⟨rfl,g⟩
 cases n:jx z8 0 1073741823
 ·have a:=Ee (z9:=z9) h (bf n);rw[xu (by rw[a];decide),a];clear a;go_enter func115,ntmps115;go_wp2_with fail;refine(lG).mono ?_;rintro f c ⟨rfl,d⟩;obtain⟨_,_,g,m⟩:=kP d;clear d;go_wp2_with (go_at_call 60;refine(h_ _ _ _ _).mono ?_;rintro f j ⟨rfl,rfl⟩);go_ret2;exact⟨rfl,g⟩
 ·have a:=Lo h k n;rw[Ef a,a];clear a;obtain⟨s,t⟩:=tg h;obtain⟨p,O⟩:=lh k;obtain⟨M,P⟩:=lh n;go_enter func115,ntmps115;go_wp2_with fail;refine(lG).mono ?_;rintro f c ⟨rfl,d⟩;obtain⟨_,e,g,m⟩:=kP d;have v:c.cell? (gf b 0)=some (II c0):=by rw[e 0 (by decide)];simp
  have w:c.cell? (gf b 1)=some (II c1):=by rw[e 1 (by decide)];simp
  have y:c.cell? (gf b 2)=some (II l):=by rw[e 2 (by decide)];simp
  have z:c.cell? (gf b 3)=some (II u):=by rw[e 3 (by decide)];simp
  have A:c.cell? (gf b 4)=some (II x):=by rw[e 4 (by decide)];simp
  have B:c.cell? (gf b 5)=some (II E):=by rw[e 5 (by decide)];simp
  have C:c.cell? (gf b 6)=some (II G):=by rw[e 6 (by decide)];simp
  have D:c.cell? (gf b 7)=some (II H):=by rw[e 7 (by decide)];simp
  have K:c.cell? (gf b 8)=some (II I):=by rw[e 8 (by decide)];simp
  have L:c.cell? (gf b 9)=some (II J):=by rw[e 9 (by decide)];simp
  clear d e;go_wp2_with (go_at_call 60;refine(h_ _ _ _ _).mono ?_;rintro f j ⟨rfl,rfl⟩);refine(ug _ _ _ _ _ _ _ _ _ _ _ _ s t p (by omega) M (by omega)).mono ?_;rintro f N ⟨rfl,o⟩;have q:Bw b N:=fP g o;clear o v w y z A B C D K L;go_wp2_with fail;go_ret2;exact⟨rfl,q⟩
theorem ot(d:b.ownsRow a 5 1 e k.length (U8 k)):(convert 44 9 e).run ab b=.ok (.string (strOfNums k)) b:=by
 rcases aY k.length with f|f
 ·obtain rfl:k=[]:=aW f;rcases d.2 with⟨rfl,_⟩|⟨c,cap,g,rfl,_⟩
  ·exact run_convert_bytes_nil (P:=ab) b 44 5 underlying44 underlying5 0 0 9 underlying9
  ·exact run_convert_bytes_arg (P:=ab) b 44 5 underlying44 underlying5 c 0 0 cap [] rfl (fun i hi=>absurd hi (by simp)) 9 underlying9
 ·obtain⟨c,cap,rfl,_,_,_⟩:=iC d f;exact run_convert_bytes_arg (P:=ab) b 44 5 underlying44 underlying5 c 0 k.length cap k rfl (sE d) 9 underlying9
theorem je.below{l:List Int}(h:je w v l)(e:Bw w b):je b v l:=by
 obtain⟨a,c,h|⟨k,d,n,cap,rfl,g,f⟩⟩:=h
 ·exact⟨a,c,bg h⟩
 ·exact⟨a,c,bf ⟨k,d,n,cap,rfl,g,fun m j=>fL (f m j) e⟩⟩
theorem Eg:(zy c).length<=4:=by
 unfold zy;split
 ·exact(hJ _).1
 ·simp
theorem gN{u9:Obj}(c:Below (b.alloc u9).heap.size (b.alloc u9) w):(∀a,w.cell? (gf b a)=(b.alloc u9).cell? (gf b a))/\b.heap.size<w.heap.size:=by have d:=c.size;simp only[az]at d;exact⟨fun a=>c.cell (by simp),by omega⟩
theorem je.N4{l:List Int}(e:gG l)(f:l.length<=140737488355328)(d:w.heap[a]? =some (.cells (U8 (l++[77])).toArray 5 (0,0))):je w (ai (some (Ad a 0)) l.length (l.length+1)) l:=by
 refine⟨e,f,?_⟩;rcases aY l.length with b|b
 ·simp_all
 ·refine bf ⟨b,a,0,_,rfl,by omega,fun g c=>?_⟩;simp only[aD,d,U8,List.getD,ap c,Option.getD_some,Nat.zero_add];simp[aZ,c]
theorem je.src{l:List Int}(h:je w (ai (some y3) l.length cap) l):(∀(a:Nat) f,(U8 l)[a]? =some f->w.cell? (y3.add a)=some f)/\(∀a,a<l.length->∃c e,y3=Ad c e/\w.cell? (Ad c (e+a))=some (.int .u8 (l.getD a 0))):=by
 obtain⟨m,n,⟨rfl,_⟩|⟨o,c,e,k,g,_,j⟩⟩:=h
 ·exact⟨fun a f d=>by simp[U8]at d,fun a b=>absurd b (by simp)⟩
 ·simp only[Value.slice.injEq,Option.some.injEq]at g;obtain⟨rfl,_,rfl⟩:=g;refine⟨fun a f d=>?_,fun a b=>⟨c,e,rfl,j a b⟩⟩;have b:a<l.length:=by have:=(List.getElem?_eq_some_iff.1 d).1;rwa [ir]at this
  rw[Addr.add_lit,j a b];simp only[U8,List.getElem?_map,ap b,Option.map_some,Option.some.injEq]at d;grind
theorem EL:(yR c0 c1 l u x E G H I J z9 z8).length<=9:=by
 unfold yR;split
 ·simp[jg,kJ,gZ]
 ·simp
structure zk where
 kd:Int
 on:Int
 a:Int
 b:Int
 nn:Int
 c0:Int
 c1:Int
 c2:Int
 c3:Int
 c4:Int
 c5:Int
 c6:Int
 c7:Int
 c8:Int
 c9:Int
 v:aM
def zk.cells(o:zk):List aM:=[II o.kd,II o.on,II o.a,II o.b,II o.nn,II o.c0,II o.c1,II o.c2,II o.c3,II o.c4,II o.c5,II o.c6,II o.c7,II o.c8,II o.c9,o.v]
def mj(hV gV:aM):List zk:=
 [⟨1,0,70,0,0,0,0,0,0,0,0,0,0,0,0,ai none 0 0⟩,⟨5,0,0,0,0,2,16,8,2,2,1,10,5,1000,0,ai none 0 0⟩,⟨6,0,7,0,0,0,0,0,0,0,0,0,0,0,0,hV⟩,⟨6,0,9,0,0,0,0,0,0,0,0,0,0,0,0,gV⟩,
  ⟨8,0,0,0,0,0,0,0,0,0,0,0,0,0,0,ai none 0 0⟩,⟨9,0,0,0,0,0,0,0,0,0,0,0,0,0,0,ai none 0 0⟩,⟨10,0,5,0,0,0,0,0,0,0,0,0,0,0,0,ai none 0 0⟩,⟨11,0,6,1,9,0,0,0,0,0,0,0,0,0,0,ai none 0 0⟩]
def cellsOf(D_:List zk):List aM:=D_.flatMap zk.cells
theorem ph{v7:List zk}:(cellsOf v7).length=v7.length*16:=by
 induction v7 with
 |nil=>rfl
 |cons b r a=>simp only[cellsOf,List.flatMap_cons,List.length_append]at a⊢;rw[a];simp[zk.cells];omega
theorem xQ(a b:List zk):cellsOf (a++b)=cellsOf a++cellsOf b:=by simp[cellsOf]
def qv(hV gV:aM):Array aM:=(cellsOf (mj hV gV)).toArray
theorem MK:(ab.info? 90).map (fun i=>(i.zero,i.size,i.bytes))=some (some (.agg #[II 0,II 0,II 0,II 0,II 0,II 0,II 0,II 0,II 0,II 0,II 0,II 0,II 0,II 0,II 0,ai none 0 0]),16,144):=by kernel_rfl
def xE(w:aK)(vs:aM)(D_:List zk):Prop:=
 (D_=[]/\vs=ai none 0 0)\/∃ad cap,vs=ai (some ad) D_.length cap/\∀(j:Nat) u,(cellsOf D_)[j]? =some u->w.cell? (ad.add j)=some u
theorem JS:yR 2 16 8 2 2 1 10 5 1000 0 9 4=jg 0 9 4:=yS (by decide)
theorem xm{x8:Array Oper}{rest:List Oper}{y2:Oper}{z1:Exit->Act->aK->Prop}(k:y2.guard=none){len:Nat}{c:Array (Nat×Operand)}(m:y2.op=.buildSlice z len c)
  {f:Option Tmp} (h:y2.dst=f) {cells:Array aM} (a:TypeInfo) {e:aM} {d:Nat} (p:a.size=d)
  (q:y5.underlying z=some (.slice y8)) (l:y5.info? y8=some a) (s:a.zero=some e) (o:¬len*d>2 ^ 24) (n:¬len*d=0)
  (j:Instr.fill (fun i=>some (i*d,d)) ((Array.range (len*d)).map (e.cells[· % e.cells.size]!)) (c.map fun(i,t)=>(i,y1.eval t)).toList=some cells)
  (g:wpList y5 x8 z1 rest (y1.put f (ai (some (gf b 0)) len len)) (b.alloc (.cells cells y8))):wpList y5 x8 z1 (y2::rest) y1 b:=by
 subst p h;exact wpList_buildSlice k z y8 len c m cells a e q l s o n j g
theorem MT{base:Nat}(c:base<=b.heap.size){a:aM}:(b.alloc (.cells (qv a h) 90)).ownsRow base 90 16 (ai (some (gf b 0)) 8 8) 8 (cellsOf (mj a h)):=by have:=World.ownsRow_lit (base:=base) (e:=90) (size:=16) b (qv a h) 8 c (by decide) (by unfold qv;rw[List.size_toArray,ph];rfl);simpa[qv] using this
theorem vp{x8:Array Oper}{rest:List Oper}{y2:Oper}{z1:Exit->Act->aK->Prop}(v:y2.guard=none)(j m:Operand)
  (w:y2.op=.call {callee:=.builtin .append,args:=#[j,m],argTypes:=#[z,z]})
  {a:Nat} {y8:TypeId} (i:TypeInfo) {e:aM} {d f:Nat} (y:y5.underlying z=some (.slice y8)) (hi:y5.info? y8=some i) (O:i.zero=some e)
  (L:i.size=d) (H:i.bytes=f) (P:e.cells.size=d) (N:0<d)
  {h:aM} {n:Nat} {o:List aM} (x:y1.eval j=h) (t:b.ownsRow a y8 d h n o)
  {q:aM} {A:Nat} {news:List aM} (B:y1.eval m=q) (M:(q=ai none 0 0/\A=0/\news=[])\/∃g p,q=ai (some g) A p/\∀(C:Nat) k,news[C]? =some k->b.cell? (g.add C)=some k) (K:news.length=A*d) (s:∀k∈news,k.oneCell'=true)
  (E:n+A<=maxLen) (I:(n+A)*f<=140737488355328) (G:a<=b.heap.size)
  (u:∀l c,c.ownsRow a y8 d l (n+A) (o++news)->b.grownBy c h.ownBlock->wpList y5 x8 z1 rest (y1.put y2.dst l) c):wpList y5 x8 z1 (y2::rest) y1 b:=by
 rcases M with⟨rfl,rfl,rfl⟩|⟨g,p,rfl,J⟩
 ·refine wpList_append_own_none v j m z w a y8 i d y hi h n o x t B (u h b (by simpa using t) (mf (Below.refl _ _)))
 ·exact wpList_append_own b v j m z w a y8 i e d f y hi O L H P N h n o x t g A p news B K J s E I G (fun l c s D _=>u l c s D)
theorem xR{v7:List zk}:∀(b:Nat) (d:b<v7.length) (a:Nat),a<16->(cellsOf v7)[b*16+a]? =(v7[b]).cells[a]?:=by
 induction v7 with
 |nil=>grind
 |cons c r h=>
  intro b d a f;have e:cellsOf (c::r)=c.cells++cellsOf r:=by simp[cellsOf]
  have g:c.cells.length=16:=rfl;grind
theorem Gg(f:b.ownsRow a z 16 e d o)(l:0<d):∃c cap,e=ai (some (Ad c 0)) d cap/\a<=c/\c<b.heap.size/\d<=cap:=by
 rcases f.2 with⟨_,h⟩|⟨c,cap,g,rfl,j,k,m,_⟩
 ·omega
 grind
theorem xE.src{v7:List zk}(h:xE w e v7)(g:Bw w b):(e=ai none 0 0/\v7.length=0/\cellsOf v7=[])\/∃a f,e=ai (some a) v7.length f/\∀(c:Nat) d,(cellsOf v7)[c]? =some d->b.cell? (a.add c)=some d:=by
 rcases h with⟨rfl,rfl⟩|⟨a,cap,rfl,j⟩
 ·exact bg ⟨rfl,rfl,rfl⟩
 ·exact bf ⟨a,cap,rfl,fun c d k=>fL (j c d k) g⟩
theorem Dj{v7:List zk}(d:∀b∈v7,b.v.oneCell'=true):∀c∈cellsOf v7,c.oneCell'=true:=by intro c a;obtain⟨b,e,a⟩:=List.mem_flatMap.1 a;have:=d b e;simp only[zk.cells,List.mem_cons,List.not_mem_nil,or_false]at a;rcases a with rfl|rfl|rfl|rfl|rfl|rfl|rfl|rfl|rfl|rfl|rfl|rfl|rfl|rfl|rfl|rfl;all_goals first|rfl|exact this
theorem mZ:ab.cellsOf 3=1:=by kernel_rfl
theorem Hg:ab.cellsOf 26=10:=by kernel_rfl
theorem Mq:ab.cellsOf 44=1:=by kernel_rfl
theorem Hh:ab.cellsOf 90=16:=by kernel_rfl
theorem NH:ab.cellsOf 5=1:=by kernel_rfl
theorem hH{α:Type}{x2:List α}(c:x2.length=a+1):∃b r,x2=b::r:=by
 cases x2 with
 |nil=>simp at c
 |cons b r=>grind
theorem Pv{α:Type}{x2:List α}(a:x2.length=10):∃k l m o p q s t u v:α,x2=[k,l,m,o,p,q,s,t,u,v]:=by
 obtain⟨k,x,rfl⟩:=hH (a:=9) a;have b:x.length=9:=by simpa using a
 obtain⟨l,y,rfl⟩:=hH (a:=8) b;have c:y.length=8:=by simpa using b
 obtain⟨m,z,rfl⟩:=hH (a:=7) c;have d:z.length=7:=by simpa using c
 obtain⟨o,A,rfl⟩:=hH (a:=6) d;have e:A.length=6:=by simpa using d
 obtain⟨p,B,rfl⟩:=hH (a:=5) e;have f:B.length=5:=by simpa using e
 obtain⟨q,C,rfl⟩:=hH (a:=4) f;have g:C.length=4:=by simpa using f
 obtain⟨s,D,rfl⟩:=hH (a:=3) g;have h:D.length=3:=by simpa using g
 obtain⟨t,E,rfl⟩:=hH (a:=2) h;have j:E.length=2:=by simpa using h
 obtain⟨u,G,rfl⟩:=hH (a:=1) j;have w:G.length=1:=by simpa using j
 obtain⟨v,H,rfl⟩:=hH (a:=0) w;grind
theorem Pw{α:Type}{x2:List α}(a:x2.length=16):∃s t A B C D E G H I u v w x y z:α,x2=[s,t,A,B,C,D,E,G,H,I,u,v,w,x,y,z]:=by
 obtain⟨s,K,rfl⟩:=hH (a:=15) a;have b:K.length=15:=by simpa using a
 obtain⟨t,L,rfl⟩:=hH (a:=14) b;have c:L.length=14:=by simpa using b
 obtain⟨A,R,rfl⟩:=hH (a:=13) c;have h:R.length=13:=by simpa using c
 obtain⟨B,S,rfl⟩:=hH (a:=12) h;have j:S.length=12:=by simpa using h
 obtain⟨C,T,rfl⟩:=hH (a:=11) j;have k:T.length=11:=by simpa using j
 obtain⟨D,U,rfl⟩:=hH (a:=10) k;have l:U.length=10:=by simpa using k
 obtain⟨E,V,rfl⟩:=hH (a:=9) l;have m:V.length=9:=by simpa using l
 obtain⟨G,W,rfl⟩:=hH (a:=8) m;have o:W.length=8:=by simpa using m
 obtain⟨H,X,rfl⟩:=hH (a:=7) o;have p:X.length=7:=by simpa using o
 obtain⟨I,Y,rfl⟩:=hH (a:=6) p;have q:Y.length=6:=by simpa using p
 obtain⟨u,M,rfl⟩:=hH (a:=5) q;have d:M.length=5:=by simpa using q
 obtain⟨v,N,rfl⟩:=hH (a:=4) d;have e:N.length=4:=by simpa using d
 obtain⟨w,O,rfl⟩:=hH (a:=3) e;have f:O.length=3:=by simpa using e
 obtain⟨x,P,rfl⟩:=hH (a:=2) f;have g:P.length=2:=by simpa using f
 obtain⟨y,Q,rfl⟩:=hH (a:=1) g;have J:Q.length=1:=by simpa using g
 obtain⟨z,Z,rfl⟩:=hH (a:=0) J;grind
section
variable {H:Type}{enc:TypeId×aM->H}{w:aK}{spare:Nat->Bool}{held:Bool}
theorem jC{a:Nat}{e:aM}{d:List (DataW H×List MemPlace)}{i:Nat}(hi:i<d.length)(c:aX enc ab w 0 spare held a 3 [e]=d[i]?):∃b,e=II b:=by rw[ap hi]at c;obtain⟨b,f,_⟩:=DataW.trod_int underlying3 c;grind
theorem Dk{a:Nat}{o:List aM}{u0:DataW H×List MemPlace}(M:aX enc ab w 0 spare held a 26 o=some u0):
  ∃c0 c1 f h k m p s u x:Int,o=[II c0,II c1,II f,II h,II k,II m,II p,II s,II u,II x]:=by
 obtain⟨b,d,_,_,K,N,c⟩:=DataW.trod_struct underlying26 M;have P:b.length=10:=N;rw[Hg]at K;obtain⟨O,L,v,t,q,n,l,j,g,e,rfl⟩:=Pv K;have y:aX enc ab w 0 spare held d 3 ((a_ 0 [O,L,v,t,q,n,l,j,g,e]).take (ab.cellsOf 3))=b[0]?:=c 0 _ rfl;rw[mZ]at y;obtain⟨c0,rfl⟩:=jC (d:=b) (i:=0) (by omega) (by simpa using y);have z:aX enc ab w 0 spare held d 3 ((a_ 1 [II c0,L,v,t,q,n,l,j,g,e]).take (ab.cellsOf 3))=b[1]?:=c 1 _ rfl;rw[mZ]at z;obtain⟨c1,rfl⟩:=jC (d:=b) (i:=1) (by omega) (by simpa using z);have A:aX enc ab w 0 spare held d 3 ((a_ 2 [II c0,II c1,v,t,q,n,l,j,g,e]).take (ab.cellsOf 3))=b[2]?:=c 2 _ rfl;rw[mZ]at A;obtain⟨f,rfl⟩:=jC (d:=b) (i:=2) (by omega) (by simpa using A);have B:aX enc ab w 0 spare held d 3 ((a_ 3 [II c0,II c1,II f,t,q,n,l,j,g,e]).take (ab.cellsOf 3))=b[3]?:=c 3 _ rfl;rw[mZ]at B;obtain⟨h,rfl⟩:=jC (d:=b) (i:=3) (by omega) (by simpa using B);have C:aX enc ab w 0 spare held d 3 ((a_ 4 [II c0,II c1,II f,II h,q,n,l,j,g,e]).take (ab.cellsOf 3))=b[4]?:=c 4 _ rfl;rw[mZ]at C;obtain⟨k,rfl⟩:=jC (d:=b) (i:=4) (by omega) (by simpa using C);have D:aX enc ab w 0 spare held d 3 ((a_ 5 [II c0,II c1,II f,II h,II k,n,l,j,g,e]).take (ab.cellsOf 3))=b[5]?:=c 5 _ rfl;rw[mZ]at D;obtain⟨m,rfl⟩:=jC (d:=b) (i:=5) (by omega) (by simpa using D);have E:aX enc ab w 0 spare held d 3 ((a_ 6 [II c0,II c1,II f,II h,II k,II m,l,j,g,e]).take (ab.cellsOf 3))=b[6]?:=c 6 _ rfl;rw[mZ]at E;obtain⟨p,rfl⟩:=jC (d:=b) (i:=6) (by omega) (by simpa using E);have G:aX enc ab w 0 spare held d 3 ((a_ 7 [II c0,II c1,II f,II h,II k,II m,II p,j,g,e]).take (ab.cellsOf 3))=b[7]?:=c 7 _ rfl;rw[mZ]at G;obtain⟨s,rfl⟩:=jC (d:=b) (i:=7) (by omega) (by simpa using G);have I:aX enc ab w 0 spare held d 3 ((a_ 8 [II c0,II c1,II f,II h,II k,II m,II p,II s,g,e]).take (ab.cellsOf 3))=b[8]?:=c 8 _ rfl;rw[mZ]at I;obtain⟨u,rfl⟩:=jC (d:=b) (i:=8) (by omega) (by simpa using I);have J:aX enc ab w 0 spare held d 3 ((a_ 9 [II c0,II c1,II f,II h,II k,II m,II p,II s,II u,e]).take (ab.cellsOf 3))=b[9]?:=c 9 _ rfl;rw[mZ]at J;obtain⟨x,rfl⟩:=jC (d:=b) (i:=9) (by omega) (by simpa using J);grind
end
theorem Hv(a:aK):(sizeOf (ab.elem 44)).run ab a=.ok 1 a:=by kernel_rfl
theorem rp:ab.underlying 44=some (.slice (ab.elem 44)):=by kernel_rfl
theorem je.form{l:List Int}(h:je w v l):∃a cap,v=.slice a l.length cap:=by
 obtain⟨_,_,⟨rfl,a,cap,rfl⟩|⟨_,b,c,cap,rfl,_,_⟩⟩:=h
 ·simp_all
 grind
theorem nj{R:Option Addr}(f:je b (.slice R k.length cap) k)(t:k.length<=cap){hi:Nat}(q:d<=hi)(g:hi<=k.length):
  je b (sliced R d hi cap 1) ((k.drop d).take (hi-d)):=by
 have l:((k.drop d).take (hi-d)).length=hi-d:=by simp;omega
 obtain⟨j,v,h⟩:=f;refine⟨fun o m=>j o (List.mem_of_mem_drop (List.mem_of_mem_take m)),by omega,?_⟩;rcases aY (hi-d) with c|c
 ·refine bg ⟨aW (by omega),?_⟩;unfold sliced;rw[c];grind
 ·rcases h with⟨rfl,_⟩|⟨_,e,n,p,a,_,s⟩
  ·simp at g;omega
  ·simp only[Value.slice.injEq]at a;obtain⟨rfl,_,rfl⟩:=a;refine bf ⟨by omega,e,n+d,cap-d,?_,by omega,fun w u=>?_⟩
   ·unfold sliced;rw[if_neg (by omega),l];simp[Addr.add_lit]
   grind
theorem pb(b:Option Addr)(cap:Nat)(h:d<=a)(c:aK):(Instr.sliceAt 44 (.slice b a cap) (some (II d)) none none).run ab c=.ok (sliced b d a cap 1) c:=by rw[run_sliceAt_slice (h:=rp),run_slice_l (ht:=rp) (h0:=by omega) (h1:=by omega),Hv];simp_all
theorem yH(b:Option Addr)(d cap:Nat)(a hi:Nat)(h:a<=hi)(h2:hi<=cap)(c:aK):(Instr.sliceAt 44 (.slice b d cap) (some (II a)) (some (II hi)) none).run ab c=.ok (sliced b a hi cap 1) c:=by rw[run_sliceAt_slice (h:=rp),run_slice_lh (ht:=rp) (h0:=by omega) (h1:=by omega) (h2:=by omega),Hv];simp_all
end Go.Proofs.YthmdjhlhodpbhaaGreatDoor
