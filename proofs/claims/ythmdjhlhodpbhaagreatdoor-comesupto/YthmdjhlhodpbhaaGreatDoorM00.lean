/- Comes, part 0 -/
import Derived.WalkKit
import Derived.Laws.BitsAllLaws
import Derived.Laws.BitsLemmas
import Derived.Test.YthmdjhlhodpbhaaGreatDoorProg
import Derived.Lib.ItoaLen
import Derived.LaidEql
import Derived.Stop.Asserts
import Derived.RowKitTokens
import Derived.Lib.ReflectliteSlice
import Derived.Laws.CopyRow
import Derived.Deep.WholeRow
import Derived.Deep.QuietTactic
import Derived.BigQuiet
import Derived.ArgAppend
import Derived.OneCell
import Derived.Laws.BytesArg
import Derived.Great.BuildSlice
import Derived.Laws.AppendOwnNone
import Derived.ProofKit
import Derived.Deep.Slices
import Derived.SizedLaws
import Derived.OpenShut
import Derived.Test.YthmdjhlhodpbhaaGreatDoorRows
import Derived.Test.YthmdjhlhodpbhaaGreatDoorShelf
set_option maxHeartbeats 16000000
set_option maxRecDepth 8000
namespace Go.Proofs.YthmdjhlhodpbhaaGreatDoor
open Go.RowKit Go.ChangeAt Go.ChangeShapes Go.Deep Go.Extern Go.Extern.Stop Go.Stop Go.WideShapes
open _root_.List renaming replicate → ak, getElem?_eq_getElem → am, eq_nil_of_length_eq_zero → ar, getElem?_append_left → aw, getElem?_replicate → aA, length_replicate → aE, getElem?_append_right → aF, nil_append → aP, getD → aQ, drop → aR, length_append → aT, set_append_right → aZ
open Go.World renaming cell?_alloc_lt → ap, ownsRow_nil → aq, size_alloc → aB, frozen?_alloc_old → aC, cell? → aX, setRow_alloc_new → aY, cell?_alloc_at → a7
open Go.Value renaming ownBlock → ax, int → a8
open _root_.Nat renaming le_refl → ay, lt_or_ge → aD, zero_le → aI, zero_add → aJ, mul_one → aL, eq_zero_or_pos → aM, add_zero → bd
open _root_.Array renaming getElem?_eq_none → az, getElem?_eq_some_iff → aO
open Go.Result renaming andThen → aG
open Go.Instr renaming index → aH
open Go.DataW renaming trod → aK
open _root_.Int renaming toNat_natCast → aS, eq_ofNat_of_zero_le → aU
open _root_.Or renaming inr → aV, inl → a_
open _root_.Go renaming method → a6
open Go.Sem renaming run_bind → be
open _root_.BitVec renaming ofInt → bg
open Go.Sort renaming grow → bh
open _root_.Go.Proofs.Tryz
open _root_.Go.Proofs.Tryz renaming prog → ae
open Go.Value renaming int → af, slice → aj, pointer → ai
open Go.IntKind renaming i64 → ag
variable {w w' w1 w2:World}{l:List Int}{c0 c1 c2 c3 c4 c5 c6 c7 c8 a k t c b c9 S:Int}{n base g cap size b1 n1:Nat}{v x v1:Value}{e e1 e2:TypeId}{xs x1:List Value}{row:Option Nat}{P:Program}
def U8(l:List Int):List Value:=l.map (a8 .u8)
theorem jM(l:List Int):(U8 l).length=l.length:=by simp[U8]
theorem qA(l r:List Int):U8 (l++r)=U8 l++U8 r:=by simp[U8]
theorem gE{p:Prop}(h:p):Hid p:=h
def iF(l:List Int):Prop:=∀x∈l,0<=x/\x<256
def ls(n a b:Int):Bool:=decide (a<=n/\n<=b)
theorem nE{n:Int}(h:ls n a b=true):a<=n/\n<=b:=of_decide_eq_true h
def jn(n:Int):List Int:=
 if n<64 then [n] else if n<16384 then [64+n/256,n%256] else [128+n/16777216,n/65536%256,n/256%256,n%256]
def iL(n:Int):List Int:=[n%256,n/256%256,n/65536%256,n/16777216%256]
def rY(s c:Int):Int:=((s.toNat ^^^ c.toNat:Nat):Int)*16777619%4294967296
def t8(l:List Int):Int:=l.foldl rY 2166136261
def lx(a t:Int):List Int:=a::iL t
def kr(k a t:Int):List Int:=lx a t++iL (t8 (iL k++lx a t))
def kc(k a c:Int):Int:=t8 (iL k++[255,a]++iL c)%1073741824
theorem ml(n:Int):iF (iL n):=by
 intro x hx;simp[iL]at hx;omega
theorem iF.append{r:List Int}(hl:iF l)(hr:iF r):iF (l++r):=by
 intro x hx;rcases List.mem_append.1 hx with h|h
 ·exact hl x h
 ·exact hr x h
theorem iF.cons(ha:0<=a/\a<256)(hl:iF l):iF (a::l):=by
 intro x hx;rcases List.mem_cons.1 hx with h|h
 ·subst h;exact ha
 ·exact hl x h
theorem iF.nil:iF []:=by intro x hx;cases hx
theorem EA(s c:Int):0<=rY s c/\rY s c<4294967296:=by unfold rY;omega
theorem I8(l:List Int):∀s:Int,0<=s/\s<4294967296->0<=l.foldl rY s/\l.foldl rY s<4294967296:=by
 induction l with
 |nil=>intro s h;exact h
 |cons a l ih=>intro s _;exact ih _ (EA s a)
theorem pM(l:List Int):0<=t8 l/\t8 l<4294967296:=I8 l _ (by decide)
theorem FP(l:List Int)(c:Int):t8 (l++[c])=rY (t8 l) c:=by simp[t8,List.foldl_append]
theorem FX(n:Int)(h0:0<=n)(h1:n<2 ^ 63):IntKind.i64.wrap n=n:=by rw[IntKind.wrap_i64];omega
theorem Mn(i:Nat)(x y:Int)(Vt:0<=x)(hx:x%2 ^ i=0)(Q0:x<2 ^ 63)(KR:0<=y)(hy:y<2 ^ i)(Pw:y<2 ^ 63):bits .or .i64 x y=x+y:=
 bits_join .i64 63 (by decide) FX i x y Vt hx Q0 KR hy Pw
theorem adw(y:Int)(h0:0<=y)(h1:y<64):bits .or .i64 64 y=64+y:=Mn 6 64 y (by decide) (by decide) (by decide) h0 h1 (by omega)
theorem abP(y:Int)(h0:0<=y)(h1:y<64):bits .or .i64 128 y=128+y:=Mn 6 128 y (by decide) (by decide) (by decide) h0 h1 (by omega)
theorem or8(x y:Int)(h0:0<=x)(h1:x<16777216)(h2:0<=y)(h3:y<256):bits .or .i64 (x*256) y=x*256+y:=
 Mn 8 (x*256) y (by omega) (by omega) (by omega) h2 h3 (by omega)
theorem VP(a b:Int)(h0:0<=a)(h1:a<4294967296)(h2:0<=b)(h3:b<256):bits .xor .i64 a b=((a.toNat ^^^ b.toNat:Nat):Int):=by
 obtain⟨x,rfl⟩:=aU h0;obtain⟨y,rfl⟩:=aU h2;have hx:x<2 ^ 63:=by omega
 have hy:y<2 ^ 63:=by omega
 have hz:x ^^^ y<2 ^ 63:=Nat.xor_lt_two_pow hx hy
 have ht:(bg 64 (x:Int) ^^^ bg 64 (y:Int)).toNat=x ^^^ y:=by
  rw[BitVec.toNat_xor,ofInt_u64 x (by omega),ofInt_u64 y (by omega)]
 show IntKind.i64.wrap ((bg 64 (x:Int) ^^^ bg 64 (y:Int)).toNat:Int)=_;rw[ht,aS,aS];exact FX _ (Int.natCast_nonneg _) (by omega)
theorem Zp(a b:Int)(h1:a<4294967296)(h3:b<256):((a.toNat ^^^ b.toNat:Nat):Int)<4294967296:=by
 have h:a.toNat ^^^ b.toNat<4294967296:=Nat.xor_lt_two_pow (n:=32) (x:=a.toNat) (y:=b.toNat) (by omega) (by omega);omega
theorem o5(w:World)(e:TypeId)(cs:List Value)(hm:cs.length<=maxLen):
  (w.alloc (.cells cs.toArray e)).ownsRow w.heap.size e 1 (aj (some ⟨w.heap.size,0,none⟩) cs.length cs.length) cs.length cs:=by
 have:=World.ownsRow_lit (base:=w.heap.size) (e:=e) (size:=1) w cs.toArray cs.length (ay _) hm (by simp);simpa using this
theorem gH(w:World)(o:Obj):Below w.heap.size w (w.alloc o):=(Below.refl _ _).alloc (ay _) o
theorem qj(n:Int)(w:World):Calls ae 110 #[af ag n] w fun e w'=>e=.returned (af ag n)/\w=w':=by
 go_enter func110,ntmps110
 go_wp2
 go_ret;exact⟨rfl,rfl⟩
theorem Do{a b:Bool}(h:a=b):Ending.returned (.bool a)=.returned (.bool b):=by rw[h]
theorem ju(n a b:Int)(w:World):Calls ae 60 #[af ag n,af ag a,af ag b] w fun e w'=>e=.returned (.bool (ls n a b))/\w=w':=by
 go_enter func60,ntmps60
 go_wp2
 all_goals go_ret
 all_goals exact⟨Do (by unfold ls;simp;try omega),rfl⟩
theorem u'(n a b:Int)(w:World):Calls ae 101 #[af ag n,af ag a,af ag b] w fun e w'=>e=.returned (.bool (ls n a b))/\w=w':=by
 go_enter func101,ntmps101
 go_wp2
 all_goals go_ret
 all_goals exact⟨Do (by unfold ls;simp;try omega),rfl⟩
def oD(n g:Int):Int:=if ls n 0 g then 0 else 2
theorem u7(n g:Int)(w:World):Calls ae 88 #[af ag n,af ag g] w fun e w'=>e=.returned (af ag (oD n g))/\w=w':=by
 unfold oD
 cases hb:ls n 0 g
 all_goals
  go_enter func88,ntmps88;go_wp2_with (go_at_call 101;refine(u' _ _ _ _).mono ?_;rintro e w' ⟨rfl,rfl⟩);go_ret;exact⟨rfl,rfl⟩
theorem ti(n:Int)(w:World):Calls ae 103 #[af ag n] w fun e w'=>e=.returned (af ag (oD n 1073741823))/\w=w':=by
 go_enter func103,ntmps103;go_wp2_with (go_at_call 88;refine(u7 _ _ _).mono ?_;rintro e w' ⟨rfl,rfl⟩);go_ret;exact⟨rfl,rfl⟩
theorem qe(n:Int)(w:World):Calls ae 47 #[af ag n] w fun e w'=>e=.returned (af ag (oD n 255))/\w=w':=by
 go_enter func47,ntmps47;go_wp2_with (go_at_call 88;refine(u7 _ _ _).mono ?_;rintro e w' ⟨rfl,rfl⟩);go_ret;exact⟨rfl,rfl⟩
theorem E5(n:Int)(w:World):Calls ae 66 #[af ag n] w fun e w'=>e=.returned (af ag (oD n 4294967295))/\w=w':=by
 go_enter func66,ntmps66;go_wp2_with (go_at_call 88;refine(u7 _ _ _).mono ?_;rintro e w' ⟨rfl,rfl⟩);go_ret;exact⟨rfl,rfl⟩
def mo(c:Int):Int:=if c<64 then 1 else if c<128 then 2 else if c<192 then 4 else 0
theorem rH(c:Int)(w:World):Calls ae 183 #[.int .u8 c] w fun e w'=>e=.returned (af ag (mo c))/\w=w':=by
 unfold mo;go_enter func183,ntmps183
 go_wp2
 all_goals go_ret
 all_goals (refine⟨?_,rfl⟩;repeat' split)<;>first|rfl|omega
theorem qm(n:Int)(w:World)(h0:0<=n)(h1:n<=1073741823):Calls ae 155 #[af ag n] w fun e w'=>∃v,e=.returned v/\w'.ownsRow w.heap.size 5 1 v (jn n).length (U8 (jn n))/\Below w.heap.size w w':=by
 by_cases a:n<64
 ·have e:jn n=[n]:=by unfold jn;rw[if_pos a]
  rw[e];go_enter func155,ntmps155
  go_wp2
  go_ret;exact⟨_,rfl,o5 w 5 (U8 [n]) (by simp[U8,maxLen]),gH w _⟩
 by_cases b:n<16384
 ·have e:jn n=[64+n/256,n%256]:=by unfold jn;rw[if_neg a,if_pos b]
  rw[e];go_enter func155,ntmps155
  go_wp2
  go_ret;exact⟨_,rfl,o5 w 5 (U8 [64+n/256,n%256]) (by simp[U8,maxLen]),gH w _⟩
 ·have e:jn n=[128+n/16777216,n/65536%256,n/256%256,n%256]:=by unfold jn;rw[if_neg a,if_neg b]
  rw[e];go_enter func155,ntmps155
  go_wp2
  go_ret;exact⟨_,rfl,o5 w 5 (U8 [128+n/16777216,n/65536%256,n/256%256,n%256]) (by simp[U8,maxLen]),gH w _⟩
theorem o4:(ae.info? 5).map (fun i=>(i.zero,i.size,i.bytes))=some (some (.int .u8 0),1,1):=by kernel_rfl
theorem pm(l:List Int):∀u∈U8 l,u.oneCell'=true:=by
 intro u hu;simp only[U8,List.mem_map]at hu;obtain⟨x,_,rfl⟩:=hu
 rfl
theorem iZ(w:World)(e:TypeId)(cs:List Value)(hm:cs.length<=maxLen):∀(j:Nat) u,cs[j]? =some u->(w.alloc (.cells cs.toArray e)).cell? ((⟨w.heap.size,0,none⟩:Addr).add j)=some u:=
 (o5 w e cs hm).cells rfl
theorem gU{o:Obj}(h:(w.alloc o).grownBy w1 row):w.grownBy w1 row:=
 ⟨h.os,h.tape,h.output,by have:=h.size;simp at this;omega,fun k hk js=>(h.block k (by simp;omega) js).trans (Below.heap_alloc w o k hk)⟩
theorem mm{G9:Option Nat}(h:w.grownBy w1 row)(h2:w1.grownBy w2 G9)(hr:G9=row\/∀k,G9=some k->w.heap.size<=k):w.grownBy w2 row:=
 ⟨h2.os.trans h.os,h2.tape.trans h.tape,h2.output.trans h.output,Nat.le_trans h.size h2.size,fun k hk js=>by
  have:k<w1.heap.size:=Nat.lt_of_lt_of_le hk h.size;rw[h2.block k this (by rcases hr with rfl|hr;exact js;intro e;have:=hr k e.symm;omega)];exact h.block k hk js⟩
theorem oK(h:w.grownBy w' none):Below w.heap.size w w':=⟨h.os,h.tape,h.output,h.size,fun k hk=>h.block k hk (by simp)⟩
theorem oG(h:Below w.heap.size w w')(row:Option Nat):w.grownBy w' row:=⟨h.os,h.tape,h.output,h.size,fun k hk _=>h.block k hk⟩
theorem ni(m:Int)(h0:0<=m)(h1:m<=1073741823)(base:Nat)(v:Value)(n:Nat)(xs:List Value)(w:World)(gY:w.ownsRow base 5 1 v n xs)(hb:base<=w.heap.size)(hn:n<=70368744177664):
  Calls ae 105 #[v,af ag m] w fun e w'=>∃v',e=.returned v'/\w'.ownsRow base 5 1 v' (n+(jn m).length) (xs++U8 (jn m))/\w.grownBy w' v.ownBlock:=by
 obtain⟨i0,hi,mB,kS,ln⟩:=info_parts o4;by_cases a:m<64
 ·have e:jn m=[m]:=by unfold jn;rw[if_pos a]
  rw[e];go_enter func105,ntmps105;go_wp2_with (at_builtin;refine wpList_append_own _ rfl _ _ 44 rfl base 5 i0 (.int .u8 0) 1 1 underlying44 hi mB kS ln rfl (by decide) v n xs rfl (gY.alloc _) ⟨w.heap.size,0,none⟩ 1 1 (U8 [m]) rfl rfl (iZ w 5 (U8 [m]) (by simp[U8,maxLen])) (pm _) (by unfold maxLen;omega) (by omega) (by simp;omega) ?_;intro v' w1 j8 jA _);go_ret;exact⟨_,rfl,j8,gU jA⟩
 by_cases b:m<16384
 ·have e:jn m=[64+m/256,m%256]:=by unfold jn;rw[if_neg a,if_pos b]
  rw[e];have Io:=adw (m/256) (by omega) (by omega);go_enter func105,ntmps105;go_wp2_with (at_builtin;refine wpList_append_own _ rfl _ _ 44 rfl base 5 i0 (.int .u8 0) 1 1 underlying44 hi mB kS ln rfl (by decide) v n xs rfl (gY.alloc _) ⟨w.heap.size,0,none⟩ 2 2 (U8 [64+m/256,m%256]) rfl rfl (iZ w 5 (U8 [64+m/256,m%256]) (by simp[U8,maxLen])) (pm _) (by unfold maxLen;omega) (by omega) (by simp;omega) ?_;intro v' w1 j8 jA _);go_ret;exact⟨_,rfl,j8,gU jA⟩
 ·have e:jn m=[128+m/16777216,m/65536%256,m/256%256,m%256]:=by unfold jn;rw[if_neg a,if_neg b]
  rw[e];have Io:=abP (m/16777216) (by omega) (by omega);go_enter func105,ntmps105;go_wp2_with (at_builtin;refine wpList_append_own _ rfl _ _ 44 rfl base 5 i0 (.int .u8 0) 1 1 underlying44 hi mB kS ln rfl (by decide) v n xs rfl (gY.alloc _) ⟨w.heap.size,0,none⟩ 4 4 (U8 [128+m/16777216,m/65536%256,m/256%256,m%256]) rfl rfl (iZ w 5 (U8 [128+m/16777216,m/65536%256,m/256%256,m%256]) (by simp[U8,maxLen])) (pm _) (by unfold maxLen;omega) (by omega) (by simp;omega) ?_;intro v' w1 j8 jA _);go_ret;exact⟨_,rfl,j8,gU jA⟩
theorem oh(m:Int)(h0:0<=m)(h1:m<4294967296)(base:Nat)(v:Value)(n:Nat)(xs:List Value)(w:World)(gY:w.ownsRow base 5 1 v n xs)(hb:base<=w.heap.size)(hn:n<=70368744177664):
  Calls ae 127 #[v,.int .u32 m] w fun e w'=>∃v',e=.returned v'/\w'.ownsRow base 5 1 v' (n+4) (xs++U8 (iL m))/\w.grownBy w' v.ownBlock:=by
 obtain⟨i0,hi,mB,kS,ln⟩:=info_parts o4;have e4:iL m=[m%256,m/256%256,m/65536%256,m/16777216]:=by unfold iL;rw[Int.emod_eq_of_lt (a:=m/16777216) (by omega) (by omega)]
 rw[e4];clear e4;go_enter func127,ntmps127;go_wp2_with (at_builtin;refine wpList_append_own _ rfl _ _ 44 rfl base 5 i0 (.int .u8 0) 1 1 underlying44 hi mB kS ln rfl (by decide) v n xs rfl (gY.alloc _) ⟨w.heap.size,0,none⟩ 4 4 (U8 [m%256,m/256%256,m/65536%256,m/16777216]) rfl rfl (iZ w 5 (U8 [m%256,m/256%256,m/65536%256,m/16777216]) (by simp[U8,maxLen])) (pm _) (by unfold maxLen;omega) (by omega) (by simp;omega) ?_;intro v' w1 j8 jA _);go_ret;exact⟨_,rfl,j8,gU jA⟩
theorem jP(h:w.ownsRow base e 1 v n xs)(hn:0<n):∃g cap,v=aj (some ⟨g,0,none⟩) n cap/\base<=g/\g<w.heap.size/\n<=cap:=by
 rcases h.2 with⟨_,h0⟩|⟨g,cap,cur,rfl,hb,hg,s_,_⟩
 ·omega
 ·exact⟨g,cap,rfl,hb,(aO.1 hg).1,s_⟩
theorem lV(la lb:List Int)(base:Nat)(va vb:Value)(w:World)(ha:w.ownsRow base 5 1 va la.length (U8 la))(hb:w.ownsRow base 5 1 vb lb.length (U8 lb))(na:0<la.length)(nb:0<lb.length)(ma:la.length<=1000)(mb:lb.length<=1000):
  Calls ae 106 #[va,vb] w fun e w'=>∃v',e=.returned v'/\w'.ownsRow w.heap.size 5 1 v' (la++lb).length (U8 (la++lb))/\Below w.heap.size w w':=by
 obtain⟨i0,hi,mB,kS,ln⟩:=info_parts o4;obtain⟨ga,ca,rfl,hga,adU,hca⟩:=jP ha na;obtain⟨gb,cb,rfl,Sh,adV,jJ⟩:=jP hb nb;have Ry:=ha.cells rfl;have HB:Hid (w.ownsRow base 5 1 (aj (some ⟨gb,0,none⟩) lb.length cb) lb.length (U8 lb)):=hb;have HA:Hid (∀(j:Nat) u,(U8 la)[j]? =some u->w.cell? ((⟨ga,0,none⟩:Addr).add j)=some u):=Ry;clear Ry ha hb;go_enter func106,ntmps106
 go_wp2_with (first
  |(at_builtin;refine wpList_append_own _ rfl _ _ 44 rfl w.heap.size 5 i0 (.int .u8 0) 1 1 underlying44 hi mB kS ln rfl (by decide) (aj none 0 0) 0 [] rfl (aq _ _ _ _) ⟨ga,0,none⟩ la.length ca (U8 la) rfl (by simp[U8]) HA.out (pm _) (by unfold maxLen;omega) (by omega) (ay _) ?_;intro v1 w1 kJ LP _;simp only[aJ,aP]at kJ)
  |(at_builtin;refine wpList_append_own _ rfl _ _ 44 rfl w.heap.size 5 i0 (.int .u8 0) 1 1 underlying44 hi mB kS ln rfl (by decide) v1 la.length (U8 la) rfl kJ ⟨gb,0,none⟩ lb.length cb (U8 lb) rfl (by simp[U8]) ((HB.out.kept LP (aV (by simp[ax]))).cells rfl) (pm _) (by unfold maxLen;omega) (by omega) LP.size ?_;intro v2 w2 je Ya _))
 go_ret;refine⟨_,rfl,by rw[qA];exact je,?_⟩;exact oK (mm LP Ya (aV fun k hk=>(kJ.lt k hk).1))
theorem FS_{k:Nat}(h:k<l.length):l.take (k+1)=l.take k++[l.getD k 0]:=by
 rw[List.take_succ_eq_append_getElem h];simp[aQ,am h]
theorem KA(l:List Int)(hl:iF l)(b off cap:Nat)(w:World)(hm:l.length<=1000000)(hc:∀j,j<l.length->w.cell? ⟨b,off+j,none⟩= some (.int .u8 (l.getD j 0))):
  Calls ae 128 #[aj (some ⟨b,off,none⟩) l.length cap] w fun e w'=>e=.returned (.int .u32 (t8 l))/\w=w':=by
 have HC:Hid (∀j,j<l.length->w.cell? ⟨b,off+j,none⟩= some (.int .u8 (l.getD j 0))):=hc;clear hc;go_enter func128,ntmps128
 go_wp2
 go_loop [3,8] (fun s i=>∃k:Nat,k<=l.length/\i=af ag k/\s=.int .u32 (t8 (l.take k))) (fun _ i=>l.length-(intOf i).toNat)
 case atStart=>exact⟨0,aI _,rfl,rfl⟩
 case round=>
  obtain⟨k,hk,rfl,rfl⟩:=hrel;by_cases jp:k<l.length
  ·have jk:=HC.out k jp;have JF:=FP (l.take k) (l.getD k 0);rw[<-FS_ jp]at JF;have mH:0<=l.getD k 0/\l.getD k 0<256:=hl _ (by simp[aQ,am jp]);have lj:=pM (l.take k);generalize l.getD k 0=c at jk JF mH;generalize t8 (l.take k)=s at JF lj⊢;obtain⟨qs,km⟩:=mH;obtain⟨yX,uD⟩:=lj;have hx:=u32_xor s c yX uD qs (by omega);have HS:Hid (t8 (l.take (k+1))=rY s c):=JF;clear JF
   go_wp2
   go_round
   case rel=>exact⟨k+1,by omega,by go_num,by rw[HS.out];rfl⟩
   case measure=>simp[intOf];omega
  ·obtain rfl:k=l.length:=by omega
   go_wp2
   go_ret;exact⟨rfl,rfl⟩
theorem Kj(l:List Int)(hl:iF l)(b off cap:Nat)(w:World)(hm:l.length<=1000000)(hc:∀j,j<l.length->w.cell? ⟨b,off+j,none⟩= some (.int .u8 (l.getD j 0))):
  Calls ae 108 #[aj (some ⟨b,off,none⟩) l.length cap] w fun e w'=>e=.returned (af ag (t8 l))/\w=w':=by
 have HC:Hid (∀j,j<l.length->w.cell? ⟨b,off+j,none⟩= some (.int .u8 (l.getD j 0))):=hc;clear hc;go_enter func108,ntmps108
 go_wp2
 go_loop [3,4] (fun s i=>∃k:Nat,k<=l.length/\i=af ag k/\s=af ag (t8 (l.take k))) (fun _ i=>l.length-(intOf i).toNat)
 case atStart=>exact⟨0,aI _,rfl,rfl⟩
 case round=>
  obtain⟨k,hk,rfl,rfl⟩:=hrel;by_cases jp:k<l.length
  ·have jk:=HC.out k jp;have JF:=FP (l.take k) (l.getD k 0);rw[<-FS_ jp]at JF;have mH:0<=l.getD k 0/\l.getD k 0<256:=hl _ (by simp[aQ,am jp]);have lj:=pM (l.take k);generalize l.getD k 0=c at jk JF mH;generalize t8 (l.take k)=s at JF lj⊢;obtain⟨qs,km⟩:=mH;obtain⟨yX,uD⟩:=lj;have hx:=VP s c yX uD qs km;have xV:=Zp s c uD km;have HS:Hid (t8 (l.take (k+1))=rY s c):=JF;clear JF
   go_wp2
   go_round
   case rel=>exact⟨k+1,by omega,by go_num,by rw[HS.out];rfl⟩
   case measure=>simp[intOf];omega
  ·obtain rfl:k=l.length:=by omega
   go_wp2
   go_ret;exact⟨rfl,rfl⟩
def sh(m:Int):Nat->Int
 |0=>m
 |k+1=>sh m k/256
theorem FM(m:Int)(h:0<=m)(k:Nat):0<=sh m k:=by
 induction k with
 |zero=>exact h
 |succ k ih=>unfold sh;omega
theorem abX(m:Int)(h:0<=m)(k:Nat):sh m k<=m:=by
 induction k with
 |zero=>exact Int.le_refl _
 |succ k ih=>have:=FM m h k;unfold sh;omega
theorem OX(m:Int)(k:Nat)(hk:k<4):(iL m).take (k+1)=(iL m).take k++[sh m k%256]:=by
 match k,hk with
 |0,_=>simp[iL,sh]
 |1,_=>simp[iL,sh]
 |2,_=>simp[iL,sh];omega
 |3,_=>simp[iL,sh];omega
theorem iE{V_:Nat}(h:w.ownsRow base e size v n xs)(hb:V_<=base):w.ownsRow V_ e size v n xs:=by
 obtain⟨h1,h2⟩:=h;refine⟨h1,?_⟩;rcases h2 with h2|⟨g,cap,cur,hv,hg,r⟩
 ·exact a_ h2
 ·exact aV ⟨g,cap,cur,hv,by omega,r⟩
theorem uP(m:Int)(w:World)(h0:0<=m)(h1:m<4294967296):
  Calls ae 107 #[af ag m] w fun e w'=>∃v',e=.returned v'/\w'.ownsRow w.heap.size 5 1 v' 4 (U8 (iL m))/\Below w.heap.size w w':=by
 obtain⟨i0,hi,mB,kS,ln⟩:=info_parts o4;go_enter func107,ntmps107
 go_wp2
 go_loopw [0,3,4] (fun n v i wr=>∃k:Nat,k<=4/\i=af ag k/\n=af ag (sh m k)/\wr.ownsRow w.heap.size 5 1 v k (U8 ((iL m).take k))/\Below w.heap.size w wr) (fun _ _ i _=>4-(intOf i).toNat)
 case atStart=>exact⟨0,aI _,rfl,rfl,aq _ _ _ _,Below.refl _ _⟩
 case round=>
  obtain⟨k,hk,rfl,rfl,gY,Yt⟩:=hrel;have yX:=FM m h0 k;have uD:=abX m h0 k;have ku:=Yt.size;by_cases jp:k<4
  ·have JF:=OX m k jp;have HS:Hid (sh m (k+1)=sh m k/256):=rfl;generalize sh m k=n at JF yX uD HS⊢;have HN:Hid ((iL m).take (k+1)=(iL m).take k++[n%256]):=JF;clear JF;go_wp2_with (at_builtin;refine wpList_append_own _ rfl _ _ 44 rfl w.heap.size 5 i0 (.int .u8 0) 1 1 underlying44 hi mB kS ln rfl (by decide) _ k (U8 ((iL m).take k)) rfl (gY.alloc _) ⟨wr.heap.size,0,none⟩ 1 1 (U8 [n%256]) rfl rfl (iZ wr 5 (U8 [n%256]) (by simp[U8,maxLen])) (pm _) (by unfold maxLen;omega) (by omega) (by simp;omega) ?_;intro v' w1 j8 jA _)
   go_roundw
   case rel=>
    refine⟨k+1,by omega,by go_num,by rw[HS.out],by rw[HN.out,qA];exact j8,?_⟩;exact Yt.trans (((gH wr _).mono ku).grown jA (by simp;omega) (fun g hg=>(gY.lt g hg).1))
   case measure=>simp[intOf];omega
  ·obtain rfl:k=4:=by omega
   go_wp2
   go_ret;exact⟨_,rfl,gY,Yt⟩
def Ep(n:Int):List Int:=if ls n 0 1073741823 then jn n else []
theorem J9{n:Int}(h:ls n 0 1073741823=true):Ep n=jn n:=by simp[Ep,h]
theorem N4{n:Int}(h:ls n 0 1073741823=false):Ep n=[]:=by simp[Ep,h]
theorem Cx{n g:Int}(h:ls n 0 g=true):oD n g=0:=by simp[oD,h]
theorem Gb{n g:Int}(h:ls n 0 g=false):oD n g=2:=by simp[oD,h]
theorem jS(n:Int):(jn n).length<=4/\0<(jn n).length:=by
 unfold jn
 split
 ·simp
 ·split<;>simp
theorem D3(n:Int)(w:World):Calls ae 58 #[af ag n] w fun e w'=>∃v,e=.returned (.tuple #[v,af ag (oD n 1073741823)])/\w'.ownsRow w.heap.size 5 1 v (Ep n).length (U8 (Ep n))/\Below w.heap.size w w':=by
 cases hb:ls n 0 1073741823
 ·rw[Gb hb,N4 hb];have he:=Gb hb;clear hb;go_enter func58,ntmps58;go_wp2_with (go_at_call 103;refine(ti _ _).mono ?_;rintro e w' ⟨rfl,rfl⟩)
  go_ret2
  exact⟨_,rfl,aq _ _ _ _,Below.refl _ _⟩
 ·rw[Cx hb,J9 hb];have he:=Cx hb;obtain⟨h0,h1⟩:=nE hb;clear hb;go_enter func58,ntmps58;go_wp2_with (first |(go_at_call 103;refine(ti _ _).mono ?_;rintro e w' ⟨rfl,rfl⟩) |(go_at_call 105;refine(ni n h0 h1 w.heap.size _ 0 [] w (aq _ _ _ _) (ay _) (by decide)).mono ?_;rintro e w' ⟨v',rfl,gY,hg⟩))
  go_ret2
  simp only[aJ,aP]at gY;exact⟨_,rfl,gY,oK hg⟩
theorem Dk(n:Int)(w:World):Calls ae 109 #[af ag n] w fun e w'=>∃v,e=.returned (.tuple #[v,af ag (oD n 1073741823)])/\w'.ownsRow w.heap.size 5 1 v (Ep n).length (U8 (Ep n))/\Below w.heap.size w w':=by
 cases hb:ls n 0 1073741823
 ·rw[Gb hb,N4 hb];go_enter func109,ntmps109;go_wp2_with (go_at_call 60;refine(ju _ _ _ _).mono ?_;rintro e w' ⟨rfl,rfl⟩)
  go_ret2
  exact⟨_,rfl,aq _ _ _ _,Below.refl _ _⟩
 ·rw[Cx hb,J9 hb];obtain⟨h0,h1⟩:=nE hb;go_enter func109,ntmps109;go_wp2_with (first |(go_at_call 60;refine(ju _ _ _ _).mono ?_;rintro e w' ⟨rfl,rfl⟩) |(go_at_call 155;refine(qm n w h0 h1).mono ?_;rintro e w' ⟨v',rfl,gY,hg⟩))
  go_ret2
  exact⟨_,rfl,gY,hg⟩
theorem wT(h:w.ownsRow base 5 1 (aj (some ⟨g,0,none⟩) n cap) n (U8 l)):∀j,j<l.length->w.cell? ⟨g,0+j,none⟩= some (.int .u8 (l.getD j 0)):=by
 intro j hj;have hl:l.length=n:=by have:=h.1;simpa[U8] using this
 rw[aJ,h.cellAt j (by omega)];simp[U8,aQ,am hj]
theorem yN(k a t:Int)(w:World)(k0:0<=k)(k1:k<4294967296)(a0:0<=a)(a1:a<256)(t0:0<=t)(t1:t<4294967296):
  Calls ae 67 #[af ag k,af ag a,af ag t] w fun e w'=>∃v,e=.returned v/\w'.ownsRow w.heap.size 5 1 v 9 (U8 (kr k a t))/\Below w.heap.size w w':=by
 obtain⟨i0,hi,mB,kS,ln⟩:=info_parts o4;go_enter func67,ntmps67;go_wp2_with fail;refine(oh t t0 t1 w.heap.size _ 1 (U8 [a]) _ (o5 w 5 (U8 [a]) (by simp[U8,maxLen])) (by simp) (by decide)).mono ?_;rintro e w1 ⟨v1,rfl,kJ,pr⟩;go_wp2_with fail;refine(oh k k0 k1 w1.heap.size _ 0 [] w1 (aq _ _ _ _) (ay _) (by decide)).mono ?_;rintro e w2 ⟨v2,rfl,je,mZ⟩;simp only[aJ,aP]at je;obtain⟨g1,c1,rfl,im,uD,km⟩:=jP kJ (by decide);obtain⟨g2,c2,rfl,iT,Cd,nr⟩:=jP je (by decide);have pJ:=kJ.kept mZ (aV (by simp[ax]));have HK:Hid (w2.ownsRow w.heap.size 5 1 (aj (some ⟨g1,0,none⟩) (1+4) c1) (1+4) (U8 [a]++U8 (iL t))):=pJ;clear pJ kJ;have F4:=gE pr;have Nl:=gE mZ;clear pr mZ;go_wp2_with (at_builtin;refine wpList_append_own _ rfl _ _ 44 rfl w1.heap.size 5 i0 (.int .u8 0) 1 1 underlying44 hi mB kS ln rfl (by decide) (aj (some ⟨g2,0,none⟩) 4 c2) 4 (U8 (iL k)) rfl je ⟨g1,0,none⟩ (1+4) c1 (U8 [a]++U8 (iL t)) rfl (by simp[U8,iL]) (HK.out.cells rfl) (by rw[<-qA];exact pm _) (by decide) (by decide) Nl.out.size ?_;intro v3 w3 lk qa _);have pr:=F4.out;have mZ:=Nl.out;obtain⟨g3,c3,rfl,mw,YI,rE⟩:=jP lk (by decide);have e3:U8 (iL k)++(U8 [a]++U8 (iL t))=U8 (iL k++lx a t):=by simp[U8,lx]
 rw[e3]at lk;have hf:iF (iL k++lx a t):=(ml k).append (iF.cons ⟨a0,a1⟩ (ml t));have i8:(iL k++lx a t).length=4+(1+4):=by simp[iL,lx]
 have AD:=KA (iL k++lx a t) hf g3 0 c3 w3 (by rw[i8];decide) (wT lk);rw[i8]at AD;refine AD.mono ?_;rintro e w4 ⟨rfl,rfl⟩;have hr:=pM (iL k++lx a t);have ku:g1<w2.heap.size:=Nat.lt_of_lt_of_le uD mZ.size;have NL:=HK.out.kept qa (aV (by simp[ax];omega));go_wp2_with fail;refine(oh _ hr.1 hr.2 w.heap.size _ (1+4) _ w3 NL (by have:=pr.size;have:=mZ.size;have:=qa.size;simp at *;omega) (by decide)).mono ?_;rintro e w5 ⟨v5,rfl,zD,hg5⟩;go_wp2_with fail;go_ret;refine⟨_,rfl,?_,?_⟩
 ·have e5:U8 [a]++U8 (iL t)++U8 (iL (t8 (iL k++lx a t)))=U8 (kr k a t):=by simp[U8,kr,lx]
  rw[<-e5];exact zD
 ·have b1:Below w.heap.size w w1:=(gH w _).grown pr (by simp) (fun g hg=>by simp[ax]at hg;omega);have b2:Below w.heap.size w w2:=b1.grown mZ b1.size (fun g hg=>by simp[ax]at hg);have b3:Below w.heap.size w w3:=b2.grown qa b2.size (fun g hg=>by simp[ax]at hg;have:=b1.size;omega);exact b3.grown hg5 b3.size (fun g hg=>by simp[ax]at hg;omega)
theorem DK(k a c:Int)(w:World)(k0:0<=k)(k1:k<4294967296)(a0:0<=a)(a1:a<256)(c0:0<=c)(cc:c<4294967296):
  Calls ae 104 #[af ag k,af ag a,af ag c] w fun e w'=>e=.returned (af ag (kc k a c))/\Below w.heap.size w w':=by
 obtain⟨i0,hi,mB,kS,ln⟩:=info_parts o4;go_enter func104,ntmps104;go_wp2_with fail;refine(oh k k0 k1 w.heap.size _ 0 [] w (aq _ _ _ _) (ay _) (by decide)).mono ?_;rintro e w1 ⟨v1,rfl,kJ,pr⟩;simp only[aJ,aP]at kJ;have hz:w.heap.size<=w1.heap.size:=pr.size;go_wp2_with (at_builtin;refine wpList_append_own _ rfl _ _ 44 rfl w.heap.size 5 i0 (.int .u8 0) 1 1 underlying44 hi mB kS ln rfl (by decide) v1 4 (U8 (iL k)) rfl (kJ.alloc _) ⟨w1.heap.size,0,none⟩ 2 2 (U8 [255,a]) rfl rfl (iZ w1 5 (U8 [255,a]) (by simp[U8,maxLen])) (pm _) (by decide) (by decide) (by simp;omega) ?_;intro v2 w2 je mZ _);have b2:Below w.heap.size w w2:=((oK pr).alloc hz _).grown mZ (by simp;omega) (fun g hg=>(kJ.lt g hg).1);refine(oh c c0 cc w.heap.size _ (4+2) _ w2 je b2.size (by decide)).mono ?_;rintro e w3 ⟨v3,rfl,lk,qa⟩;have b3:Below w.heap.size w w3:=b2.grown qa b2.size (fun g hg=>(je.lt g hg).1);obtain⟨g3,c3,rfl,mw,YI,rE⟩:=jP lk (by decide);have e3:U8 (iL k)++U8 [255,a]++U8 (iL c)=U8 (iL k++[255,a]++iL c):=by simp[U8]
 rw[e3]at lk;have hf:iF (iL k++[255,a]++iL c):=((ml k).append (iF.cons (by decide) (iF.cons ⟨a0,a1⟩ iF.nil))).append (ml c);have i8:(iL k++[255,a]++iL c).length=4+2+4:=by simp[iL]
 have AD:=KA _ hf g3 0 c3 w3 (by rw[i8];decide) (wT lk);rw[i8]at AD;clear pr mZ qa kJ je lk;go_wp2_with fail;refine AD.mono ?_;rintro e w4 ⟨rfl,rfl⟩;have hr:=pM (iL k++[255,a]++iL c);have HP:Hid (kc k a c=t8 (iL k++[255,a]++iL c)%1073741824):=rfl;generalize t8 (iL k++[255,a]++iL c)=s at hr HP⊢;obtain⟨rG,ue⟩:=hr;go_wp2_with fail;go_ret;exact⟨by rw[HP.out];rfl,b3⟩
structure jG where
 c0:Int
 c1:Int
 c2:Int
 c3:Int
 c4:Int
 c5:Int
 c6:Int
 c7:Int
 c8:Int
 c9:Int
def jG.cells(c:jG):List Value:=[af ag c.c0,af ag c.c1,af ag c.c2,af ag c.c3,af ag c.c4,af ag c.c5,af ag c.c6,af ag c.c7,af ag c.c8,af ag c.c9]
theorem iB(h:w.ownsRow base e size v n xs)(hb:Below w.heap.size w w'):w'.ownsRow base e size v n xs:=
 h.kept (oG hb none) (by cases v.ownBlock<;>simp)
theorem gI(h:Below w.heap.size w w1)(h2:Below w1.heap.size w1 w2):Below w.heap.size w w2:=h.trans (h2.mono h.size)
theorem gF{a:Addr}(h:w.cell? a=some v)(hb:Below w.heap.size w w'):w'.cell? a=some v:=by
 have:a.block<w.heap.size:=by
  rcases aD a.block w.heap.size with h1|h1
  ·exact h1
  ·simp[aX,az h1]at h
 rw[hb.cell this];exact h
theorem yJ(c0 c1 c2 c3 c4 c5 c6 c7 c8 k a t:Int)(w:World)(k0:0<=k)(k1:k<4294967296)(a0:0<=a)(a1:a<256)(t0:0<=t)(t1:t<4294967296):
  Calls ae 61 #[.agg #[af ag c0,af ag c1,af ag c2,af ag c3,af ag c4,af ag c5,af ag c6,af ag c7,af ag c8,af ag k],af ag a,af ag t] w fun e w'=>∃v,e=.returned v/\w'.ownsRow w.heap.size 5 1 v 9 (U8 (kr k a t))/\Below w.heap.size w w':=by
 have facts:∀W:World,W=(w.alloc (.cells #[af ag c0,af ag c1,af ag c2,af ag c3,af ag c4,af ag c5,af ag c6,af ag c7,af ag c8,af ag k] 26)).alloc (.cells #[.int .u8 a] 5)->
   W.ownsRow w.heap.size 5 1 (aj (some ⟨w.heap.size+1,0,none⟩) 1 1) 1 (U8 [a])/\W.cell? ⟨w.heap.size,9,none⟩= some (af ag k)/\Below w.heap.size w W:=by
  rintro W rfl;refine⟨?_,?_,(gH w _).alloc (by simp) _⟩
  ·have:=o5 (w.alloc (.cells #[af ag c0,af ag c1,af ag c2,af ag c3,af ag c4,af ag c5,af ag c6,af ag c7,af ag c8,af ag k] 26)) 5 (U8 [a]) (by simp[U8,maxLen]);have hz:(w.alloc (.cells #[af ag c0,af ag c1,af ag c2,af ag c3,af ag c4,af ag c5,af ag c6,af ag c7,af ag c8,af ag k] 26)).heap.size=w.heap.size+1:=by simp
   rw[hz]at this;exact iE this (by omega)
  ·rw[ap _ _ _ (by simp)];simp
 have HF:=gE facts;clear facts;go_enter func61,ntmps61;go_wp2_with fail;obtain⟨abk,zC,kf⟩:=HF.out _ rfl;clear HF;refine(uP t _ t0 t1).mono ?_;rintro e w1 ⟨v1,rfl,kJ,im⟩;have oN:=iE kJ kf.size;have Wy:=iB abk im;have Wx:=gF zC im;have wH:=gI kf im;clear abk zC im kJ kf;go_wp2_with fail;refine(lV [a] (iL t) w.heap.size _ _ w1 Wy oN (by simp) (by simp[iL]) (by simp) (by simp[iL])).mono ?_;rintro e w2 ⟨v2,rfl,je,iT⟩;have wO:w2.ownsRow w.heap.size 5 1 v2 5 (U8 (lx a t)):=iE je wH.size;have abf:=gF Wx iT;have oL:=gI wH iT;clear Wy oN Wx je iT wH;go_wp2_with fail;refine(uP k _ k0 k1).mono ?_;rintro e w3 ⟨v3,rfl,lk,mw⟩;have wP:=iE lk oL.size;have Pc:=iB wO mw;have Av:=gI oL mw;clear lk mw abf wO oL;go_wp2_with fail;refine(lV (iL k) (lx a t) w.heap.size _ _ w3 wP Pc (by simp[iL]) (by simp[lx]) (by simp[iL]) (by simp[lx,iL])).mono ?_;rintro e w4 ⟨v4,rfl,ki,vK⟩;have aa':=iB Pc vK;have Jf:=gI Av vK;have hf:iF (iL k++lx a t):=(ml k).append (iF.cons ⟨a0,a1⟩ (ml t));have i8:(iL k++lx a t).length=9:=by simp[iL,lx]
 rw[i8]at ki;obtain⟨g4,cp4,rfl,Fp,QX,ud⟩:=jP ki (by decide);have AD:=Kj (iL k++lx a t) hf g4 0 cp4 w4 (by rw[i8];decide) (wT ki);rw[i8]at AD;clear wP Pc Av vK ki;go_wp2_with fail;refine AD.mono ?_;rintro e w5 ⟨rfl,rfl⟩;have hr:=pM (iL k++lx a t);go_wp2_with fail;refine(uP _ _ hr.1 hr.2).mono ?_;rintro e w6 ⟨v6,rfl,vM,wb⟩;have Yw:=iE vM Jf.size;have acC:=iB aa' wb;have aaQ:=gI Jf wb;clear vM wb aa' Jf AD;go_wp2_with fail;refine(lV (lx a t) (iL (t8 (iL k++lx a t))) w.heap.size _ _ w6 acC Yw (by simp[lx]) (by simp[iL]) (by simp[lx,iL]) (by simp[iL])).mono ?_;rintro e w7 ⟨v7,rfl,Jy,R0⟩;have Yx:=iE Jy aaQ.size;have acp:=gI aaQ R0;go_wp2_with fail;go_ret;exact⟨_,rfl,Yx,acp⟩
theorem yI(c0 c1 c2 c3 c4 c5 c6 c7 c8 k a c:Int)(w:World)(k0:0<=k)(k1:k<4294967296)(a0:0<=a)(a1:a<256)(cc0:0<=c)(cc1:c<4294967296):
  Calls ae 156 #[.agg #[af ag c0,af ag c1,af ag c2,af ag c3,af ag c4,af ag c5,af ag c6,af ag c7,af ag c8,af ag k],af ag a,af ag c] w fun e w'=>e=.returned (af ag (kc k a c))/\Below w.heap.size w w':=by
 go_enter func156,ntmps156;go_wp2_with fail;have kf:=gH w (.cells #[af ag c0,af ag c1,af ag c2,af ag c3,af ag c4,af ag c5,af ag c6,af ag c7,af ag c8,af ag k] 26);refine(uP k _ k0 k1).mono ?_;rintro e w1 ⟨v1,rfl,kJ,im⟩;have oN:=iE kJ kf.size;have wH:=gI kf im;clear im kJ kf
 have HW:Hid (∀W:World,W=w1.alloc (.cells #[.int .u8 255,.int .u8 a] 5)->W.ownsRow w.heap.size 5 1 (aj (some ⟨w1.heap.size,0,none⟩) 2 2) 2 (U8 [255,a])/\W.ownsRow w.heap.size 5 1 v1 4 (U8 (iL k))/\Below w.heap.size w W):=by
  rintro W rfl;exact⟨iE (o5 w1 5 (U8 [255,a]) (by simp[U8,maxLen])) wH.size,oN.alloc _,wH.alloc wH.size _⟩
 clear oN wH;go_wp2_with fail;obtain⟨hl,ho,hb⟩:=HW.out _ rfl;clear HW;refine(lV (iL k) [255,a] w.heap.size _ _ _ ho hl (by simp[iL]) (by simp) (by simp[iL]) (by simp)).mono ?_;rintro e w2 ⟨v2,rfl,je,iT⟩;have wO:=iE je hb.size;have oL:=gI hb iT;clear hl ho hb je iT;go_wp2_with fail;refine(uP c _ cc0 cc1).mono ?_;rintro e w3 ⟨v3,rfl,lk,mw⟩;have wP:=iE lk oL.size;have Pc:=iB wO mw;have Av:=gI oL mw;clear lk mw wO oL;go_wp2_with fail;refine(lV (iL k++[255,a]) (iL c) w.heap.size _ _ w3 Pc wP (by simp[iL]) (by simp[iL]) (by simp[iL]) (by simp[iL])).mono ?_;rintro e w4 ⟨v4,rfl,ki,vK⟩;have Jf:=gI Av vK;have hf:iF (iL k++[255,a]++iL c):=((ml k).append (iF.cons (by decide) (iF.cons ⟨a0,a1⟩ iF.nil))).append (ml c);have i8:(iL k++[255,a]++iL c).length=10:=by simp[iL]
 rw[i8]at ki;obtain⟨g4,cp4,rfl,Fp,QX,ud⟩:=jP ki (by decide);have AD:=Kj _ hf g4 0 cp4 w4 (by rw[i8];decide) (wT ki);rw[i8]at AD;clear wP Pc Av vK ki;go_wp2_with fail;refine AD.mono ?_;rintro e w5 ⟨rfl,rfl⟩;have hr:=pM (iL k++[255,a]++iL c);have HP:Hid (kc k a c=t8 (iL k++[255,a]++iL c)%1073741824):=rfl;generalize t8 (iL k++[255,a]++iL c)=s at hr HP⊢;obtain⟨rG,ue⟩:=hr;clear AD;go_wp2_with fail;go_ret;exact⟨by rw[HP.out];rfl,Jf⟩
def Env(w:World):Prop:=Lib.TabIs ae w "internal/strconv.uint64pow10" .u64 Lib.pow10Tab/\w.cell? ⟨0,0,none⟩= some (.iface 263 (.agg #[ai (some ⟨4,109,none⟩)]))
theorem aaG:ae.globalNamed "internal/strconv.uint64pow10" = some 1:=by kernel_rfl
theorem Env.below(h:Env w)(hb:Below w.heap.size w w'):Env w':=by
 refine⟨?_,gF h.2 hb⟩;have h1:=h.1;unfold Lib.TabIs World.var? at *
 rw[aaG]at h1⊢;simp only[Option.bind_some]at h1⊢
 have jp:1<w.heap.size:=by
  rcases aD 1 w.heap.size with h|h
  ·exact h
  ·rw[az h]at h1;simp at h1
 rw[hb.block 1 jp];exact h1
theorem Le(w:World)(k:Nat)(os:Array Obj):Below w.heap.size w (bh (w.drewN k) os):=by
 refine⟨?_,?_,?_,?_,?_⟩
 ·rfl
 ·simp[bh]
 ·rfl
 ·simp[bh]
 ·intro i hi;simp[bh,Array.getElem?_append,hi]
theorem zK(n:Int)(h0:0<=n)(h1:n<=9223372036854775807)(w:World)(he:Env w):Calls ae 137 #[af ag n] w fun e w'=>∃s:ByteArray,e=.returned (.string s)/\s.size<=21/\Below w.heap.size w w':=by
 refine(Tryz.strconv_Itoa n (by omega) (by omega) w he.1).mono ?_;rintro e w' ⟨rfl,k,os,rfl⟩;refine⟨_,rfl,?_,Le w k os⟩;have:=Lib.itoa_length_le n (by omega) (by omega);show(Lib.itoa n).toArray.size<=21;simpa using this
def lq(l:List Int):Nat->Int
 |0=>0
 |1=>l.getD 0 0%64
 |k+2=>lq l (k+1)*256+l.getD (k+1) 0
def kz(l:List Int):Int:=if l.length=0 then 0 else if(l.length:Int)<mo (l.getD 0 0) then 0 else mo (l.getD 0 0)
def ly(l:List Int):Int:=if kz l=0 then 0 else lq l (kz l).toNat
def qh(l:List Int):Int:=if kz l=0 then 2 else 0
theorem j9(hl:iF l)(k:Nat):0<=l.getD k 0/\l.getD k 0<256:=by
 rcases aD k l.length with h|h
 ·exact hl _ (by simp[aQ,am h])
 ·simp[aQ,List.getElem?_eq_none h]
theorem Bq(hl:iF l):(0<=lq l 1/\lq l 1<64)/\(0<=lq l 2/\lq l 2<16384)/\(0<=lq l 3/\lq l 3<4194304)/\(0<=lq l 4/\lq l 4<1073741824):=by
 have h0:=j9 hl 0;have h1:=j9 hl 1;have h2:=j9 hl 2;have h3:=j9 hl 3;have e1:lq l 1=l.getD 0 0%64:=rfl;have e2:lq l 2=lq l 1*256+l.getD 1 0:=rfl;have e3:lq l 3=lq l 2*256+l.getD 2 0:=rfl;have e4:lq l 4=lq l 3*256+l.getD 3 0:=rfl;omega
theorem DJ(hl:iF l)(k:Nat)(h1:1<=k)(h2:k<4):0<=lq l k/\lq l k<4194304:=by
 obtain⟨a,b,c,_⟩:=Bq hl
 match k,h1,h2 with
 |1,_,_=>omega
 |2,_,_=>omega
 |3,_,_=>omega
theorem Fi(h:0<l.length)(e:l.getD 0 0=c)(hs:mo c=S)(hl:(l.length:Int)<S):kz l=0:=by
 unfold kz;rw[if_neg (by omega),e,hs,if_pos hl]
theorem Gs(h:0<l.length)(e:l.getD 0 0=c)(hs:mo c=S)(hl:S<=(l.length:Int)):kz l=S:=by
 unfold kz;rw[if_neg (by omega),e,hs,if_neg (by omega)]
theorem VI(h:c<64):mo c=1:=by simp[mo,h]
theorem N8(h:64<=c)(h2:c<128):mo c=2:=by simp[mo,h2];omega
theorem N9(h:128<=c)(h2:c<192):mo c=4:=by unfold mo;rw[if_neg (by omega),if_neg (by omega),if_pos h2]
theorem VH(h:192<=c):mo c=0:=by unfold mo;rw[if_neg (by omega),if_neg (by omega),if_neg (by omega)]
theorem tM(h:kz l=0):ly l=0/\qh l=2:=by simp[ly,qh,h]
theorem Gr{S:Nat}(h:kz l=S)(hs:0<S):ly l=lq l S/\qh l=0:=by
 have:¬kz l=0:=by omega
 constructor
 ·unfold ly;rw[if_neg this,h,aS]
 ·simp[qh,this]
theorem Tg(ao:Option Addr)(cap:Nat)(w:World):Calls ae 113 #[.slice ao 0 cap] w fun e w'=>e=.returned (.tuple #[af ag 0,af ag 0,af ag 2])/\w=w':=by
 go_enter func113,ntmps113
 go_wp2
 go_ret3
 exact⟨rfl,rfl⟩
theorem Tf(l:List Int)(hl:iF l)(hp:0<l.length)(b off cap:Nat)(w:World)(hm:l.length<=140737488355328)(hc:∀j,j<l.length->w.cell? ⟨b,off+j,none⟩= some (.int .u8 (l.getD j 0))):
  Calls ae 113 #[aj (some ⟨b,off,none⟩) l.length cap] w fun e w'=>e=.returned (.tuple #[af ag (ly l),af ag (kz l),af ag (qh l)])/\w=w':=by
 have HC:=gE hc;have h0:=hc 0 hp;clear hc;obtain⟨c,zx⟩:∃c,l.getD 0 0=c:=⟨_,rfl⟩;have mH:=j9 hl 0;rw[zx]at h0 mH;rw[bd]at h0;obtain⟨qs,km⟩:=mH;have HE:=gE zx;clear zx;have T6:((l.length:Int)==0)=false:=beq_eq_false_iff_ne.2 (by omega);by_cases g3:192<=c
 ·have hz:kz l=0:=by
   by_cases hx:(l.length:Int)<0
   ·omega
   ·exact Gs hp HE.out (VH g3) (by omega)
  obtain⟨e1,e2⟩:=tM hz;rw[e1,e2,hz];clear e1 e2 hz;go_enter func113,ntmps113
  go_wp2
  go_ret3
  exact⟨rfl,rfl⟩
 by_cases g1:c<64
 ·have hz:=Gs (S:=1) hp HE.out (VI g1) (by omega);obtain⟨e1,e2⟩:=Gr (S:=1) hz (by decide);have ev:lq l 1=c%64:=by show l.getD 0 0%64=_;rw[HE.out]
  rw[e1,e2,hz,ev];clear e1 e2 hz ev;go_enter func113,ntmps113
  go_wp2
  refine wp_loop_rounds 1 ?_;rw[rounds_succ]
  go_wp2
  go_ret3
  exact⟨rfl,rfl⟩
 by_cases g2:c<128
 ·by_cases rD:(l.length:Int)<2
  ·have hz:=Fi (S:=2) hp HE.out (N8 (by omega) g2) rD;obtain⟨e1,e2⟩:=tM hz;rw[e1,e2,hz];clear e1 e2 hz;go_enter func113,ntmps113
   go_wp2
   go_ret3
   exact⟨rfl,rfl⟩
  ·have hz:=Gs (S:=2) hp HE.out (N8 (by omega) g2) (by omega);obtain⟨e1,e2⟩:=Gr (S:=2) hz (by decide);rw[e1,e2,hz];have kS:lq l 1=c%64:=by show l.getD 0 0%64=_;rw[HE.out]
   have H1:=gE kS;clear e1 e2 hz kS;go_enter func113,ntmps113
   go_wp2
   go_loop [6,7] (fun n i=>∃k:Nat,1<=k/\k<=2/\i=af ag k/\n=af ag (lq l k)) (fun _ i=>2-(intOf i).toNat)
   case atStart=>exact⟨1,by decide,by decide,rfl,by rw[H1.out]⟩
   case round=>
    obtain⟨k,pJ,rp,rfl,rfl⟩:=hrel;by_cases jp:k<2
    ·have jk:=HC.out k (by omega);have hv:=DJ hl k pJ (by omega);have hb:=j9 hl k
     have HV:Hid (lq l (k+1)=lq l k*256+l.getD k 0):=by
      obtain⟨j,rfl⟩:∃j,k=j+1:=⟨k-1,by omega⟩
      rfl
     generalize lq l k=n at hv HV⊢;generalize l.getD k 0=x at jk hb HV;obtain⟨hv0,hv1⟩:=hv;obtain⟨kf,im⟩:=hb
     go_wp2
     go_round
     case rel=>exact⟨k+1,by omega,by omega,by go_num,by rw[HV.out];go_num⟩
     case measure=>simp[intOf];omega
    ·obtain rfl:k=2:=by omega
     go_wp2
     go_ret3
     exact⟨rfl,rfl⟩
 ·by_cases rD:(l.length:Int)<4
  ·have hz:=Fi (S:=4) hp HE.out (N9 (by omega) (by omega)) rD;obtain⟨e1,e2⟩:=tM hz;rw[e1,e2,hz];clear e1 e2 hz;go_enter func113,ntmps113
   go_wp2
   go_ret3
   exact⟨rfl,rfl⟩
  ·have hz:=Gs (S:=4) hp HE.out (N9 (by omega) (by omega)) (by omega);obtain⟨e1,e2⟩:=Gr (S:=4) hz (by decide);rw[e1,e2,hz];have kS:lq l 1=c%64:=by show l.getD 0 0%64=_;rw[HE.out]
   have H1:=gE kS;clear e1 e2 hz kS;go_enter func113,ntmps113
   go_wp2
   go_loop [6,7] (fun n i=>∃k:Nat,1<=k/\k<=4/\i=af ag k/\n=af ag (lq l k)) (fun _ i=>4-(intOf i).toNat)
   case atStart=>exact⟨1,by decide,by decide,rfl,by rw[H1.out]⟩
   case round=>
    obtain⟨k,pJ,rp,rfl,rfl⟩:=hrel;by_cases jp:k<4
    ·have jk:=HC.out k (by omega);have hv:=DJ hl k pJ (by omega);have hb:=j9 hl k
     have HV:Hid (lq l (k+1)=lq l k*256+l.getD k 0):=by
      obtain⟨j,rfl⟩:∃j,k=j+1:=⟨k-1,by omega⟩
      rfl
     generalize lq l k=n at hv HV⊢;generalize l.getD k 0=x at jk hb HV;obtain⟨hv0,hv1⟩:=hv;obtain⟨kf,im⟩:=hb
     go_wp2
     go_round
     case rel=>exact⟨k+1,by omega,by omega,by go_num,by rw[HV.out];go_num⟩
     case measure=>simp[intOf];omega
    ·obtain rfl:k=4:=by omega
     go_wp2
     go_ret3
     exact⟨rfl,rfl⟩
theorem Xa(t:Value)(w:World):Calls ae 87 #[.nilIface,t] w fun e w'=>e=.returned (.bool false)/\w=w':=by
 go_enter func87,ntmps87
 go_wp2
 go_ret;exact⟨rfl,rfl⟩
theorem yH(t:Addr)(w:World):(ReflectliteValue.unpack (.iface 160 (ai (some t)))).run ae w
  = .ok (.agg #[ai (some ⟨4,160,none⟩),ai (some ⟨w.heap.size,0,none⟩),.int .u64 150]) (w.alloc (.cells #[ai (some t)] 160)):=by kernel_rfl
theorem G8(a:Addr)(w:World):(ReflectliteValue.methodAny (ReflectliteValue.valueError "reflectlite.Value.Type" 0) (fun t _ _ _=>ReflectliteType.toType t) #[.agg #[ai (some ⟨4,160,none⟩),ai (some a),.int .u64 150]]).run ae w
  = .ok (.iface 263 (.agg #[ai (some ⟨4,160,none⟩)])) w:=by kernel_rfl
theorem tY(h:Value)(w:World):(a6 469 263 (.agg #[h]) "Kind").run ae w=.ok (261,h) w:=by kernel_rfl
theorem AW(w:World):((ReflectliteType.abiMethod fun t=>Functor.map (fun a:Nat=>a8 IntKind.u8 (a:Int)) (Rtype.kind t)) #[ai (some ⟨4,160,none⟩)]).run ae w=.ok (.int .u8 22) w:=by kernel_rfl
theorem Dt(w:World):((ReflectliteType.abiMethod fun t=>Functor.map (fun a:Nat=>a8 IntKind.u8 (a:Int)) (Rtype.kind t)) #[ai (some ⟨4,158,none⟩)]).run ae w=.ok (.int .u8 22) w:=by kernel_rfl
theorem Du(a:Addr)(w:World):(ReflectliteValue.parts (.agg #[ai (some ⟨4,160,none⟩),ai (some a),.int .u64 150])).run ae w=.ok (some (160,a,150)) w:=by kernel_rfl
theorem Ds(a p:Addr)(W:World)(ha:W.cell? a=some (ai (some p))):
  (ReflectliteValue.method (ReflectliteValue.valueError "reflectlite.Value.IsNil" 0) ReflectliteValue.isNil #[.agg #[ai (some ⟨4,160,none⟩),ai (some a),.int .u64 150]]).run ae W=.ok (.bool false) W:=by
 rw[Lib.rl_method];simp only[be,Du,aG];simp[ReflectliteValue.isNil,loadVar,isAgg,underlying,underlying160,ha,aG]
theorem tX(h:Value)(w:World):(a6 469 263 (.agg #[h]) "Elem").run ae w=.ok (274,.agg #[h]) w:=by kernel_rfl
theorem pj(h:Value)(w:World):(a6 469 263 (.agg #[h]) "Implements").run ae w=.ok (275,.agg #[h]) w:=by kernel_rfl
theorem oy(h:Value)(w:World):(a6 469 263 (.agg #[h]) "AssignableTo").run ae w=.ok (272,.agg #[h]) w:=by kernel_rfl
theorem AV(w:World):(ReflectliteType.method ReflectliteType.elem #[.agg #[ai (some ⟨4,160,none⟩)]]).run ae w=.ok (.iface 263 (.agg #[ai (some ⟨4,158,none⟩)])) w:=by kernel_rfl
theorem tV(w:World):(ReflectliteType.relation "Implements" ReflectliteType.implements_ #[.agg #[ai (some ⟨4,158,none⟩)],.iface 263 (.agg #[ai (some ⟨4,109,none⟩)])]).run ae w=.ok (.bool true) w:=by kernel_rfl
theorem yF(v:Value)(w:World):(ReflectliteType.typeOf #[.iface 158 v]).run ae w=.ok (.iface 263 (.agg #[ai (some ⟨4,158,none⟩)])) w:=by kernel_rfl
theorem yG(v:Value)(w:World):(ReflectliteType.typeOf #[.iface 155 v]).run ae w=.ok (.iface 263 (.agg #[ai (some ⟨4,155,none⟩)])) w:=by kernel_rfl
theorem sO(w:World):(ReflectliteType.relation "AssignableTo" ReflectliteType.assignableTo #[.agg #[ai (some ⟨4,158,none⟩)],.iface 263 (.agg #[ai (some ⟨4,158,none⟩)])]).run ae w=.ok (.bool true) w:=by kernel_rfl
theorem sP(w:World):(ReflectliteType.relation "AssignableTo" ReflectliteType.assignableTo #[.agg #[ai (some ⟨4,155,none⟩)],.iface 263 (.agg #[ai (some ⟨4,158,none⟩)])]).run ae w=.ok (.bool false) w:=by kernel_rfl
theorem wZ(e:Addr)(w:World):(ReflectliteValue.unpack (.iface 158 (ai (some e)))).run ae w
  = .ok (.agg #[ai (some ⟨4,158,none⟩),ai (some ⟨w.heap.size,0,none⟩),.int .u64 150]) (w.alloc (.cells #[ai (some e)] 158)):=by kernel_rfl
theorem Qe(w:World):(Rtype.elem? 160).run ae w=.ok (some 158) w:=by kernel_rfl
theorem abU(p:Addr)(w:World):(ReflectliteValue.mk 158 p ReflectliteValue.flagAddr).run ae w=.ok (.agg #[ai (some ⟨4,158,none⟩),ai (some p),.int .u64 406]) w:=by kernel_rfl
theorem Dr(a p:Addr)(W:World)(ha:W.cell? a=some (ai (some p))):
  (ReflectliteValue.method (ReflectliteValue.valueError "reflectlite.Value.Elem" 0) ReflectliteValue.elem #[.agg #[ai (some ⟨4,160,none⟩),ai (some a),.int .u64 150]]).run ae W
   = .ok (.agg #[ai (some ⟨4,158,none⟩),ai (some p),.int .u64 406]) W:=by
 rw[Lib.rl_method];simp only[be,Du,aG];simp[ReflectliteValue.elem,loadVar,isAgg,underlying,underlying160,ha,aG,Qe,abU]
theorem Qf(a:Addr)(w:World):(ReflectliteValue.parts (.agg #[ai (some ⟨4,158,none⟩),ai (some a),.int .u64 406])).run ae w=.ok (some (158,a,406)) w:=by kernel_rfl
theorem Tp(a:Addr)(w:World):(ReflectliteValue.parts (.agg #[ai (some ⟨4,158,none⟩),ai (some a),.int .u64 150])).run ae w=.ok (some (158,a,150)) w:=by kernel_rfl
theorem Qd(w:World):(Rtype.directlyAssignable 158 158).run ae w=.ok true w:=by kernel_rfl
theorem Hc(v x:Value)(ta b e:Addr)(yB:Value)(W:World)(hv:(ReflectliteValue.parts v).run ae W=.ok (some (158,ta,406)) W)(hx:(ReflectliteValue.parts x).run ae W=.ok (some (158,b,150)) W)
  (hb:W.cell? b=some (ai (some e))) (ht:W.cell? ta=some yB) (hf:W.frozen? ta=false):(ReflectliteValue.set #[v,x]).run ae W=.ok (.tuple #[]) (W.setCell ta (ai (some e))):=by
 change Sem.run ae (Bind.bind (m:=Sem) (ReflectliteValue.parts v) fun p=>Bind.bind (m:=Sem) (ReflectliteValue.parts x) ((?F:Option (TypeId×Addr×Nat)->Option (TypeId×Addr×Nat)->Sem Value) p)) W=_
 simp only[be,hv,hx,aG];simp[ReflectliteValue.flagAddr,loadVar,isAgg,underlying,underlying158,hb,aG,Qd,storeVar,Value.cells,storeCells,Addr.add];rw[run_store ae W ta _ _ (by rfl)];simp[ht,hf]
theorem MJ(ta b e:Addr)(yB:Value)(W:World)(hb:W.cell? b=some (ai (some e)))(ht:W.cell? ta=some yB)(hf:W.frozen? ta=false):
  (ReflectliteValue.set #[.agg #[ai (some ⟨4,158,none⟩),ai (some ta),.int .u64 406],.agg #[ai (some ⟨4,158,none⟩),ai (some b),.int .u64 150]]).run ae W
   = .ok (.tuple #[]) (W.setCell ta (ai (some e))):=Hc _ _ ta b e yB W (Qf ta W) (Tp b W) hb ht hf
theorem xj(v:Value)(xT:TypeId)(w:World):(Instr.typeAssert (.iface 155 v) xT 268 true).run ae w=.ok (.tuple #[.nilIface,.bool false]) w:=run_typeAssert_lacksB underlying268 (by kernel_rfl) (by kernel_rfl) v xT w
theorem qN(v:Value)(xT:TypeId)(w:World):(Instr.typeAssert (.iface 155 v) xT 271 true).run ae w=.ok (.tuple #[.iface 155 v,.bool true]) w:=run_typeAssert_hasB underlying271 (by kernel_rfl) v xT w
theorem t_(p:Option Addr)(w:World):(a6 469 155 (.pointer p) "Unwrap").run ae w=.ok (265,.pointer p) w:=by kernel_rfl
set_option maxRecDepth 20000 in
theorem EV(hb:Nat)(e t:Addr)(w:World)(hg:w.cell? ⟨0,0,none⟩= some (.iface 263 (.agg #[ai (some ⟨4,109,none⟩)])))(wJ:w.cell? ⟨hb,1,none⟩= some (.iface 158 (ai (some e))))(SL:w.cell? t=some (ai none))(Wq:w.frozen? t=false):
  Calls ae 87 #[.iface 155 (ai (some ⟨hb,0,none⟩)),.iface 160 (ai (some t))] w fun ev w'=>ev=.returned (.bool true)/\Below t.block w w':=by
 have h6:=@run_callFunc_extern ae 138 _ (fun args=>ReflectliteValue.unpack (args.getD 0 (.tuple #[]))) func138 (by kernel_rfl) (by kernel_rfl) (by kernel_rfl) (by kernel_rfl);have h7:=@run_callFunc_extern ae 139 _ (ReflectliteValue.methodAny (ReflectliteValue.valueError "reflectlite.Value.Type" 0) (fun t _ _ _=>ReflectliteType.toType t)) func139 (by kernel_rfl) (by kernel_rfl) (by kernel_rfl) (by kernel_rfl);have h8:=@run_callFunc_extern ae 140 _ (ReflectliteValue.method (ReflectliteValue.valueError "reflectlite.Value.IsNil" 0) ReflectliteValue.isNil) func140 (by kernel_rfl) (by kernel_rfl) (by kernel_rfl) (by kernel_rfl);have h27:=@run_callFunc_extern ae 261 _ (ReflectliteType.abiMethod fun t=>do pure (.int .u8 (<-Rtype.kind t))) func261 (by kernel_rfl) (by kernel_rfl) (by kernel_rfl) (by kernel_rfl);have h37:=@run_callFunc_extern ae 274 _ (ReflectliteType.method ReflectliteType.elem) func274 (by kernel_rfl) (by kernel_rfl) (by kernel_rfl) (by kernel_rfl);have h38:=@run_callFunc_extern ae 275 _ (ReflectliteType.relation "Implements" ReflectliteType.implements_) func275 (by kernel_rfl) (by kernel_rfl) (by kernel_rfl) (by kernel_rfl);have RR:=@run_callFunc_extern ae 170 _ ReflectliteType.typeOf func170 (by kernel_rfl) (by kernel_rfl) (by kernel_rfl) (by kernel_rfl);have h35:=@run_callFunc_extern ae 272 _ (ReflectliteType.relation "AssignableTo" ReflectliteType.assignableTo) func272 (by kernel_rfl) (by kernel_rfl) (by kernel_rfl) (by kernel_rfl);have US:=@run_callFunc_extern ae 171 _ (ReflectliteValue.method (ReflectliteValue.valueError "reflectlite.Value.Elem" 0) ReflectliteValue.elem) func171 (by kernel_rfl) (by kernel_rfl) (by kernel_rfl) (by kernel_rfl);have UT:=@run_callFunc_extern ae 172 _ ReflectliteValue.set func172 (by kernel_rfl) (by kernel_rfl) (by kernel_rfl) (by kernel_rfl);have abN:=xj;have mU:=t_;have aaL:=qN;have tN:=yF;have tW:=yG;have mA:=oy;have aN:=sO;have aW:=sP;have vN:=wZ;have f6:=yH;have f7:=G8;have mK:=tY;have mE:=tX;have mI:=pj;have k27:=AW;have k25:=Dt;have e27:=AV;have i25:=tV;have n8:=Ds ⟨w.heap.size,0,none⟩ t ((w.alloc (.cells #[ai (some t)] 160)).alloc (.cells #[ai (some ⟨4,160,none⟩),ai (some ⟨w.heap.size,0,none⟩),.int .u64 150] 217)) (by simp)
 have jp:0<w.heap.size:=by
  rcases aD 0 w.heap.size with h|h
  ·exact h
  ·simp[aX,az h]at hg
 have mZ:((w.alloc (.cells #[ai (some t)] 160)).alloc (.cells #[ai (some ⟨4,160,none⟩),ai (some ⟨w.heap.size,0,none⟩),.int .u64 150] 217)).cell? ⟨0,0,none⟩= some (.iface 263 (.agg #[ai (some ⟨4,109,none⟩)])):=by
  rw[ap _ _ ⟨0,0,none⟩ (by simp only[aB];omega),ap _ _ ⟨0,0,none⟩ jp];exact hg
 have BI:t.block<w.heap.size:=by
  rcases aD t.block w.heap.size with h|h
  ·exact h
  ·simp[aX,az h]at SL
 have hhl:hb<w.heap.size:=by
  rcases aD hb w.heap.size with h|h
  ·exact h
  ·simp[aX,az h]at wJ
 have rE:(((w.alloc (.cells #[ai (some t)] 160)).alloc (.cells #[ai (some ⟨4,160,none⟩),ai (some ⟨w.heap.size,0,none⟩),.int .u64 150] 217)).alloc (.cells #[ai (some ⟨4,160,none⟩),ai (some ⟨w.heap.size,0,none⟩),.int .u64 150] 217)).cell? ⟨hb,1,none⟩= some (.iface 158 (ai (some e))):=by
  rw[ap _ _ ⟨hb,1,none⟩ (by simp;omega),ap _ _ ⟨hb,1,none⟩ (by simp;omega),ap _ _ ⟨hb,1,none⟩ hhl];exact wJ
 have el:=Dr ⟨w.heap.size,0,none⟩ t (((w.alloc (.cells #[ai (some t)] 160)).alloc (.cells #[ai (some ⟨4,160,none⟩),ai (some ⟨w.heap.size,0,none⟩),.int .u64 150] 217)).alloc (.cells #[ai (some ⟨4,160,none⟩),ai (some ⟨w.heap.size,0,none⟩),.int .u64 150] 217)) (by rw[ap _ _ ⟨w.heap.size,0,none⟩ (by simp;omega)];simp)
 have st:=MJ t ⟨w.heap.size+1+1+1,0,none⟩ e (ai none) ((((w.alloc (.cells #[ai (some t)] 160)).alloc (.cells #[ai (some ⟨4,160,none⟩),ai (some ⟨w.heap.size,0,none⟩),.int .u64 150] 217)).alloc (.cells #[ai (some ⟨4,160,none⟩),ai (some ⟨w.heap.size,0,none⟩),.int .u64 150] 217)).alloc (.cells #[ai (some e)] 158))
  (by rw[a7 _ _ _ _ (by simp)];rfl)
  (by rw[ap _ _ t (by simp;omega),ap _ _ t (by simp;omega),ap _ _ t (by simp;omega),ap _ _ t BI];exact SL)
  (by rw[aC _ _ t (by simp;omega),aC _ _ t (by simp;omega),aC _ _ t (by simp;omega),aC _ _ t (Nat.ne_of_lt BI)];exact Wq)
 go_enter func87,ntmps87
 go_wp2
 refine wp_loop_rounds 2 ?_;rw[rounds_succ]
 go_wp2
 rw[rounds_succ]
 go_wp2
 go_ret;refine⟨rfl,?_⟩;have kf:t.block<=w.heap.size:=Nat.le_of_lt BI;exact((((((Below.refl t.block w).alloc kf _).alloc (by simp only[aB];omega) _).alloc (by simp only[aB];omega) _).alloc (by simp only[aB];omega) _)).setCell (ay _) _
theorem DF(a c:Int)(ha:0<=a)(Wh:a<=9223372036854775807)(hc:0<=c)(km:c<=9223372036854775807)(w:World)(he:Env w):Calls ae 136 #[af ag a,af ag c] w fun e w'=>∃g,e=.returned (ai (some ⟨g,0,none⟩))/\Below w.heap.size w w':=by
 have HE:=gE he;clear he;go_enter func136,ntmps136;go_wp2_with fail;refine(zK a ha Wh w HE.out).mono ?_;rintro e w1 ⟨s,rfl,hs,hb⟩;go_wp2_with fail;refine(zK c hc km w1 (HE.out.below hb)).mono ?_;rintro e w2 ⟨s2,rfl,Cd,iT⟩;have pg:=gI hb iT;clear hb iT;go_wp2_with fail;go_ret;exact⟨_,rfl,pg.alloc pg.size _⟩
theorem wS(ao:Option Addr)(cap:Nat)(w:World):Calls ae 154 #[.slice ao 0 cap] w fun e w'=>∃g,e=.returned (.tuple #[af ag 0,.iface 158 (ai (some ⟨g,0,none⟩))])/\Below w.heap.size w w':=by
 go_enter func154,ntmps154
 go_wp2
 go_ret2
 exact⟨_,rfl,gH w _⟩
theorem BM(l:List Int)(hp:0<l.length)(b off cap:Nat)(w:World)(hm:l.length<=140737488355328)(hc:w.cell? ⟨b,off,none⟩= some (.int .u8 (l.getD 0 0)))(hz:¬kz l=0):
  Calls ae 154 #[aj (some ⟨b,off,none⟩) l.length cap] w fun e w'=>e=.returned (.tuple #[af ag (kz l),.nilIface])/\w=w':=by
 have T6:((l.length:Int)==0)=false:=beq_eq_false_iff_ne.2 (by omega)
 have e1:kz l=mo (l.getD 0 0)/\¬(l.length:Int)<mo (l.getD 0 0):=by
  unfold kz at hz⊢;rw[if_neg (by omega)]at hz⊢;by_cases h:(l.length:Int)<mo (l.getD 0 0)
  ·rw[if_pos h]at hz;exact absurd rfl hz
  ·rw[if_neg h];exact⟨rfl,h⟩
 obtain⟨e1,e2⟩:=e1;rw[e1]at hz⊢;clear e1;generalize l.getD 0 0=c at hc hz e2⊢;have xF:(mo c==0)=false:=beq_eq_false_iff_ne.2 hz;go_enter func154,ntmps154;go_wp2_with (go_at_call 183;refine(rH _ _).mono ?_;rintro e w' ⟨rfl,rfl⟩)
 go_ret2
 exact⟨rfl,rfl⟩
theorem vS(l:List Int)(hl:iF l)(hp:0<l.length)(b off cap:Nat)(w:World)(he:Env w)(hm:l.length<=140737488355328)(hc:w.cell? ⟨b,off,none⟩= some (.int .u8 (l.getD 0 0)))(hz:kz l=0):
  Calls ae 154 #[aj (some ⟨b,off,none⟩) l.length cap] w fun e w'=>∃g,e=.returned (.tuple #[af ag 0,.iface 158 (ai (some ⟨g,0,none⟩))])/\Below w.heap.size w w':=by
 have T6:((l.length:Int)==0)=false:=beq_eq_false_iff_ne.2 (by omega);have mH:=j9 hl 0;unfold kz at hz;rw[if_neg (by omega)]at hz;generalize l.getD 0 0=c at hc hz mH;obtain⟨qs,km⟩:=mH;have HE:=gE he;clear he;by_cases h0:mo c=0
 ·have xF:(mo c==0)=true:=by simp[h0]
  clear hz h0;go_enter func154,ntmps154;go_wp2_with (first |(go_at_call 183;refine(rH _ _).mono ?_;rintro e w' ⟨rfl,rfl⟩));refine(zK c qs (by omega) w HE.out).mono ?_;rintro e w1 ⟨s,rfl,hs,hb⟩;go_wp2_with fail
  go_ret2
  exact⟨_,rfl,hb.alloc hb.size _⟩
 ·have xF:(mo c==0)=false:=beq_eq_false_iff_ne.2 h0
  have rD:(l.length:Int)<mo c:=by
   by_cases h:(l.length:Int)<mo c
   ·exact h
   ·rw[if_neg h]at hz;exact absurd hz h0
  have uV:mo c<=4:=by
   unfold mo
   repeat' split
   all_goals omega
  clear hz h0;have LW:0<=mo c:=by omega
  go_enter func154,ntmps154;go_wp2_with (first |(go_at_call 183;refine(rH _ _).mono ?_;rintro e w' ⟨rfl,rfl⟩));refine(DF _ _ (by omega) (by omega) LW (by omega) w HE.out).mono ?_;rintro e w1 ⟨g,rfl,hb⟩;go_wp2_with fail
  go_ret2
  exact⟨g,rfl,hb⟩
theorem Rs(ao:Option Addr)(cap:Nat)(w:World):Calls ae 102 #[.slice ao 0 cap] w fun e w'=>∃g h,e=.returned (.tuple #[af ag 0,af ag 0,.iface 155 (ai (some ⟨h,0,none⟩))])/\w'.cell? ⟨h,1,none⟩= some (.iface 158 (ai (some ⟨g,0,none⟩)))/\Below w.heap.size w w':=by
 go_enter func102,ntmps102;go_wp2_with fail;refine(wS ao cap w).mono ?_;rintro e w1 ⟨g,rfl,hb⟩;go_wp2_with fail
 go_ret3
 exact⟨g,w1.heap.size,rfl,by simp,hb.alloc hb.size _⟩
theorem Oo(l:List Int)(hl:iF l)(hp:0<l.length)(b off cap:Nat)(w:World)(he:Env w)(hm:l.length<=140737488355328)(hc:w.cell? ⟨b,off,none⟩= some (.int .u8 (l.getD 0 0)))(hz:kz l=0):
  Calls ae 102 #[aj (some ⟨b,off,none⟩) l.length cap] w fun e w'=>∃g h,e=.returned (.tuple #[af ag 0,af ag 0,.iface 155 (ai (some ⟨h,0,none⟩))])/\w'.cell? ⟨h,1,none⟩= some (.iface 158 (ai (some ⟨g,0,none⟩)))/\Below w.heap.size w w':=by
 go_enter func102,ntmps102;go_wp2_with fail;refine(vS l hl hp b off cap w he hm hc hz).mono ?_;rintro e w1 ⟨g,rfl,hb⟩;clear hc he hz;go_wp2_with fail
 go_ret3
 exact⟨g,w1.heap.size,rfl,by simp,hb.alloc hb.size _⟩
theorem E4(l:List Int)(hl:iF l)(hp:0<l.length)(b off cap:Nat)(w:World)(nH:l.length<=cap)(hm:l.length<=140737488355328)(hc:∀j,j<l.length->w.cell? ⟨b,off+j,none⟩= some (.int .u8 (l.getD j 0)))(hz:¬kz l=0):
  Calls ae 102 #[aj (some ⟨b,off,none⟩) l.length cap] w fun e w'=>e=.returned (.tuple #[af ag (ly l),af ag (kz l),.nilIface])/\w=w':=by
 have HC:=gE hc;have h0:=hc 0 hp;rw[bd]at h0;clear hc
 obtain⟨S,hS,RT,hSl⟩:∃S:Nat,kz l=S/\(1<=S/\S<=4)/\S<=l.length:=by
  unfold kz at hz⊢;rw[if_neg (by omega)]at hz⊢;by_cases h:(l.length:Int)<mo (l.getD 0 0)
  ·rw[if_pos h]at hz;exact absurd rfl hz
  ·rw[if_neg h]at hz⊢
   have hb:0<=mo (l.getD 0 0)/\mo (l.getD 0 0)<=4:=by
    unfold mo
    repeat' split
    all_goals omega
   exact⟨(mo (l.getD 0 0)).toNat,by omega,by omega,by omega⟩
 have KQ:=BM l hp b off cap w hm h0 hz;have mH:=j9 hl 0;have HV1:Hid (lq l 1=l.getD 0 0%64):=rfl;generalize l.getD 0 0=c at h0 mH HV1;obtain⟨qs,km⟩:=mH;have adQ:=u8_and63 c qs km;have HG:Hid (ly l=lq l S):=(Gr hS (by omega)).1;rw[hS]at KQ⊢;clear hS hz;obtain⟨yT,sI⟩:=RT;by_cases aa2:cap=1
 ·subst aa2;obtain rfl:S=1:=by omega
  go_enter func102,ntmps102;go_wp2_with fail;refine KQ.mono ?_;rintro e w1 ⟨rfl,rfl⟩;clear KQ;go_wp2_with fail;refine wp_loop_rounds 1 ?_;rw[rounds_succ]
  go_wp2
  go_ret3
  exact⟨by rw[HG.out,HV1.out];rfl,rfl⟩
 ·go_enter func102,ntmps102;go_wp2_with fail;refine KQ.mono ?_;rintro e w1 ⟨rfl,rfl⟩;clear KQ;go_wp2_with fail
  go_loop [2,27] (fun n i=>∃k:Nat,k+1<=S/\i=af ag k/\n=af ag (lq l (k+1))) (fun _ i=>S-(intOf i).toNat)
  case atStart=>exact⟨0,yT,rfl,by rw[HV1.out]⟩
  case round=>
   obtain⟨k,hk,rfl,rfl⟩:=hrel;by_cases jp:k+1<S
   ·have jk:=HC.out (k+1) (by omega);rw[show off+(k+1)=off+1+k from by omega]at jk;have hv:=DJ hl (k+1) (by omega) (by omega);have hb:=j9 hl (k+1);have HV:Hid (lq l (k+1+1)=lq l (k+1)*256+l.getD (k+1) 0):=rfl;generalize lq l (k+1)=n at hv HV⊢;generalize l.getD (k+1) 0=x at jk hb HV;obtain⟨hv0,hv1⟩:=hv;obtain⟨kf,im⟩:=hb;have Io:=or8 n x hv0 (by omega) kf im
    go_wp2
    go_round
    case rel=>exact⟨k+1,by omega,by go_num,by rw[HV.out]⟩
    case measure=>simp[intOf];omega
   ·obtain rfl:S=k+1:=by omega
    go_wp2
    go_ret3
    exact⟨by rw[HG.out];rfl,rfl⟩
def kv(w:World)(v:Value)(l:List Int):Prop:=
 iF l/\l.length<=140737488355328/\((l=[]/\∃ao cap,v=.slice ao 0 cap)\/(0<l.length/\∃b off cap,v=aj (some ⟨b,off,none⟩) l.length cap/\l.length<=cap/\∀j,j<l.length->w.cell? ⟨b,off+j,none⟩= some (.int .u8 (l.getD j 0))))
theorem ld(l:List Int)(v:Value)(w:World)(hr:kv w v l):
  Calls ae 113 #[v] w fun e w'=>e=.returned (.tuple #[af ag (ly l),af ag (kz l),af ag (qh l)])/\w=w':=by
 obtain⟨hl,hm,h|h⟩:=hr
 ·obtain⟨rfl,ao,cap,rfl⟩:=h;exact Tg ao cap w
 ·obtain⟨hp,b,off,cap,rfl,_,hc⟩:=h;exact Tf l hl hp b off cap w hm hc
theorem D0(h g:Nat)(w:World)(he:Env w)(wJ:w.cell? ⟨h,1,none⟩= some (.iface 158 (ai (some ⟨g,0,none⟩)))):
  Calls ae 46 #[.iface 155 (ai (some ⟨h,0,none⟩))] w fun e w'=>e=.returned (.bool true)/\Below w.heap.size w w':=by
 have im:Below w.heap.size w (w.alloc (.cells #[ai none] 158)):=gH w _;have HA:=gE (EV h ⟨g,0,none⟩ ⟨w.heap.size,0,none⟩ (w.alloc (.cells #[ai none] 158)) (gF he.2 im) (gF wJ im) (by simp) (by simp));clear wJ he;go_enter func46,ntmps46;go_wp2_with fail;refine HA.out.mono ?_;rintro e w2 ⟨rfl,iT⟩;have mw:Below w.heap.size w w2:=im.trans iT;clear im iT HA;go_wp2_with fail;go_ret;exact⟨rfl,mw⟩
theorem uX(w:World):Calls ae 46 #[.nilIface] w fun e w'=>e=.returned (.bool false)/\Below w.heap.size w w':=by
 go_enter func46,ntmps46;go_wp2_with fail;refine(Xa _ _).mono ?_;rintro e w2 ⟨rfl,rfl⟩;go_wp2_with fail;go_ret;exact⟨rfl,gH w _⟩
theorem Nh(v:Value)(w:World)(he:Env w)
  (JB:Calls ae 102 #[v] w fun e w'=>∃g h,e=.returned (.tuple #[af ag 0,af ag 0,.iface 155 (ai (some ⟨h,0,none⟩))])/\w'.cell? ⟨h,1,none⟩= some (.iface 158 (ai (some ⟨g,0,none⟩)))/\Below w.heap.size w w'):
  Calls ae 56 #[v] w fun e w'=>e=.returned (.tuple #[af ag 0,af ag 0,af ag 2])/\Below w.heap.size w w':=by
 have HR:=gE JB;have HE:=gE he;clear JB he;go_enter func56,ntmps56;go_wp2_with fail;refine HR.out.mono ?_;rintro e w1 ⟨g,h,rfl,wJ,hb⟩;clear HR;have HI:=gE (D0 h g w1 (HE.out.below hb) wJ);clear wJ;go_wp2_with fail;refine HI.out.mono ?_;rintro e w2 ⟨rfl,iT⟩;have mw:Below w.heap.size w w2:=gI hb iT;clear hb iT HI;go_wp2_with fail
 go_ret3
 exact⟨rfl,mw⟩
theorem Xc(l:List Int)(v:Value)(w:World)
  (JB:Calls ae 102 #[v] w fun e w'=>e=.returned (.tuple #[af ag (ly l),af ag (kz l),.nilIface])/\w=w'):
  Calls ae 56 #[v] w fun e w'=>e=.returned (.tuple #[af ag (ly l),af ag (kz l),af ag 0])/\Below w.heap.size w w':=by
 have HR:=gE JB;clear JB;go_enter func56,ntmps56;go_wp2_with fail;refine HR.out.mono ?_;rintro e w1 ⟨rfl,rfl⟩;clear HR;go_wp2_with fail;refine(uX _).mono ?_;rintro e w2 ⟨rfl,hb⟩;go_wp2_with fail
 go_ret3
 exact⟨rfl,hb⟩
theorem xK(l:List Int)(v:Value)(w:World)(he:Env w)(hr:kv w v l):
  Calls ae 56 #[v] w fun e w'=>e=.returned (.tuple #[af ag (ly l),af ag (kz l),af ag (qh l)])/\Below w.heap.size w w':=by
 obtain⟨hl,hm,h|h⟩:=hr
 ·obtain⟨rfl,ao,cap,rfl⟩:=h;exact Nh _ w he (Rs ao cap w)
 ·obtain⟨hp,b,off,cap,rfl,nH,hc⟩:=h;have h0:=hc 0 hp;rw[bd]at h0;by_cases hz:kz l=0
  ·obtain⟨e1,e2⟩:=tM hz;rw[e1,e2,hz];exact Nh _ w he (Oo l hl hp b off cap w he hm h0 hz)
  ·have e2:qh l=0:=by simp[qh,hz]
   rw[e2];exact Xc l _ w (E4 l hl hp b off cap w nH hm hc hz)
theorem S4(w:World):(binOp .eql 44 (aj none 0 0) (aj none 0 0)).run ae w=.ok (.bool true) w:=by kernel_rfl
theorem Hf(a:Addr)(n c:Nat)(w:World):(binOp .eql 44 (aj (some a) n c) (aj none 0 0)).run ae w=.ok (.bool false) w:=by kernel_rfl
theorem Mh(n:Nat):madeCells #[.int .u8 0] n=(ak n (a8 .u8 0)).toArray:=by
 apply Array.ext
 ·simp[madeCells]
 ·intro i h1 h2;simp[madeCells,Nat.mod_one]
theorem JO(w:World):Calls ae 112 #[aj none 0 0] w fun e w'=>e=.returned (aj none 0 0)/\w=w':=by
 have hn:=S4;go_enter func112,ntmps112
 go_wp2
 go_ret;exact⟨rfl,rfl⟩
theorem ON(l:List Int)(ad:Addr)(cap:Nat)(w:World)(hc:∀(j:Nat) u,(U8 l)[j]? =some u->w.cell? (ad.add j)=some u):
  (Builtin.copy_ #[44,44] 3 #[aj (some ⟨w.heap.size,0,none⟩) (l.length+1) (l.length+1),aj (some ad) l.length cap]).run ae (w.alloc (.cells (ak (l.length+1) (a8 .u8 0)).toArray 5))
   = .ok (goInt l.length) (w.alloc (.cells (U8 (l++[0])).toArray 5)):=by
 have h:=run_copy_row (P:=ae) (w.alloc (.cells (ak (l.length+1) (a8 .u8 0)).toArray 5)) 44 44 3 5 w.heap.size 0 (l.length+1) (l.length+1) ad l.length cap (ak (l.length+1) (a8 .u8 0)).toArray 5 (U8 l) underlying44 (by kernel_rfl)
  (heap_alloc_last w _) (by rw[jM];simp) (fun j u hu=>gF (hc j u hu) (gH w _)) (by simp[jM]) (pm l)
 rw[h,aY,jM,qA];simp[U8]
theorem Fy(l:List Int)(ad:Addr)(cap:Nat)(w:World)(hm:l.length<=140737488355328)(hc:∀(j:Nat) u,(U8 l)[j]? =some u->w.cell? (ad.add j)=some u):
  Calls ae 112 #[aj (some ad) l.length cap] w fun e w'=>∃g,e=.returned (aj (some ⟨g,0,none⟩) l.length (l.length+1))/\w'.heap[g]? =some (.cells (U8 (l++[77])).toArray 5 (0,0))/\w.heap.size<=g/\Below w.heap.size w w':=by
 obtain⟨i0,hi,mB,kS,ln⟩:=info_parts o4
 have QT:∀u:World,(Instr.makeSlice 44 (af ag ((l.length:Int)+1)) (af ag ((l.length:Int)+1))).run ae u =
   .ok (aj (some ⟨u.heap.size,0,none⟩) (l.length+1) (l.length+1)) (u.alloc (.cells (madeCells #[.int .u8 0] (l.length+1)) 5)):=fun u=>by
  have h:=run_make (P:=ae) u 44 5 i0 (.int .u8 0) underlying44 hi mB .i64 .i64 ((l.length:Int)+1) ((l.length:Int)+1) (by omega) (Int.le_refl _) (by rw[ln];omega) (by omega);have e:((l.length:Int)+1).toNat=l.length+1:=by omega
  rw[e]at h;simpa[kS,Value.cells] using h
 have hmc:=Mh (l.length+1);have js:=Hf;rw[hmc]at QT;have Wn:=ON l ad cap w hc;clear hc hmc;generalize (ak (l.length+1) (a8 .u8 0))=Z at QT Wn
 have mx:(w.alloc (.cells (U8 (l++[0])).toArray 5)).cell? ⟨w.heap.size,l.length,none⟩= some (.int .u8 0):=by
  rw[a7 _ _ _ _ rfl];simp[U8]
 have HS:Hid ((U8 (l++[0])).toArray.setIfInBounds l.length (.int .u8 77)=(U8 (l++[77])).toArray):=by
  show _=_;rw[List.setIfInBounds_toArray,qA,qA,aZ _ _ (by rw[jM];exact ay _),jM,Nat.sub_self]
  rfl
 generalize (U8 (l++[0])).toArray=Y at Wn mx HS;go_enter func112,ntmps112
 go_wp2
 go_ret;refine⟨w.heap.size,rfl,?_,ay _,gH w _⟩;rw[HS.out];exact heap_alloc_last w _
theorem IG(h:Value)(w:World):Calls ae 114 #[h,aj none 0 0] w fun e w'=>e=.returned (.bool true)/\w=w':=by
 have hn:=S4;go_enter func114,ntmps114
 go_wp2
 go_ret;exact⟨rfl,rfl⟩
theorem Ox(l:List Int)(ad:Addr)(cap g G:Nat)(w:World)(hl:iF l)(hm:l.length<=140737488355328)(hg:w.heap[g]? =some (.cells (U8 (l++[77])).toArray 5 (0,0)))(hG:G<=g)
  (hc:∀j,j<l.length->∃b off,ad =⟨b,off,none⟩/\w.cell? ⟨b,off+j,none⟩= some (.int .u8 (l.getD j 0))):
  Calls ae 114 #[aj (some ⟨g,0,none⟩) l.length (l.length+1),aj (some ad) l.length cap] w fun e w'=>e=.returned (.bool true)/\Below G w w':=by
 have js:=Hf;have mx:w.cell? ⟨g,l.length,none⟩= some (.int .u8 77):=by simp[aX,hg,U8]
 have O7:∀j,j<l.length->w.cell? ⟨g,j,none⟩= some (.int .u8 (l.getD j 0)):=by
  intro j hj;simp only[aX,hg,U8,aQ,am hj,Option.getD_some];simp[aw,hj]
 have HC:=gE hc;have HJ:=gE O7;have HG:=gE hg;clear hc O7 hg;go_enter func114,ntmps114
 go_wp2
 go_loopw [6,7] (fun ok i wr=>∃k m:Nat,k<=l.length/\i=af ag k/\ok=.bool true/\wr=w.drewN m) (fun _ i _=>l.length-(intOf i).toNat)
 case atStart=>exact⟨0,0,aI _,rfl,rfl,rfl⟩
 case round=>
  obtain⟨k,m,hk,rfl,rfl,rfl⟩:=hrel;by_cases jp:k<l.length
  ·obtain⟨b,off,rfl,h1⟩:=HC.out k jp;have h2:=HJ.out k jp;have hr:=j9 hl k;generalize l.getD k 0=c at h1 h2 hr
   go_wp2
   go_quiet (fail)
   go_wp2
   go_roundw
   case rel=>exact⟨k+1,_,by omega,by go_num,rfl,rfl⟩
   case measure=>simp[intOf];omega
  ·obtain rfl:k=l.length:=by omega
   have gY:(w.drewN m).ownsRow g 5 1 (aj (some ⟨g,0,none⟩) (l.length+1) (l.length+1)) (l.length+1) (U8 (l++[77])):=
    ⟨by simp[U8],.inr ⟨g,l.length+1,_,rfl,ay _,HG.out,ay _,by unfold maxLen;omega,by simp[U8],by rw[List.take_of_length_le (by simp[U8])]⟩⟩
   have qQ:Below G w (w.drewN m):=⟨rfl,rfl,rfl,ay _,fun _ _=>rfl⟩;have HO:=gE gY;clear gY HC HJ HG mx;generalize w.drewN m=w1 at qQ HO⊢;generalize U8 (l++[77])=ys0 at HO
   go_wp2
   go_loopw [8] (fun i wr=>∃(j:Nat) (ys:List Value),j<=l.length+1/\i=af ag j/\wr.ownsRow g 5 1 (aj (some ⟨g,0,none⟩) (l.length+1) (l.length+1)) (l.length+1) ys/\Below G w wr) (fun i _=>l.length+1-(intOf i).toNat)
   case atStart=>exact⟨0,_,aI _,rfl,HO.out,qQ⟩
   case round=>
    obtain⟨j,ys,hj,rfl,gY,lS⟩:=hrel;by_cases Ww:j<l.length+1
    ·have jk:∃u,wr.cell? ⟨g,j,none⟩= some u:=by
      rw[gY.cellAt j (by omega)];exact⟨_,am (by have:=gY.1;omega)⟩
     obtain⟨u,jk⟩:=jk;have oM:=gY.frozenAt j;have HS:=gE (gY.stored j (.int .u8 238)).1;have HB:=gE (lS.setCell (p:=⟨g,j,none⟩) hG (.int .u8 238));clear gY lS
     go_wp2
     go_roundw
     case rel=>exact⟨j+1,_,by omega,by go_num,HS.out,HB.out⟩
     case measure=>simp[intOf];omega
    ·obtain rfl:j=l.length+1:=by omega
     go_wp2
     go_ret;exact⟨rfl,lS⟩
abbrev Row(w:World)(base:Nat)(e:TypeId)(v:Value)(n:Nat)(x:Value):Prop:=w.ownsRow base e 1 v n (ak n x)
theorem FK(h:Row w base e v n x)(hg:w.grownBy w' row)(hn:v.ownBlock=none\/v.ownBlock≠row):Row w' base e v n x:=World.ownsRow.kept h hg hn
theorem M4{cur:List Value}{m k:Nat}(hn:cur.take n=ak n x)(hk:cur.take k=ak k x):
  (cur.take n++ak m x++cur.drop (n+m)).take k=ak k x:=by
 apply List.ext_getElem?
 intro j;rw[List.getElem?_take,aA];by_cases hj:j<k
 ·rw[if_pos hj,if_pos hj,hn];by_cases h1:j<n
  ·rw[List.append_assoc,aw (by simpa using h1),aA,if_pos h1]
  ·by_cases h2:j<n+m
   ·rw[aw (by simp;omega),aF (by simp;omega),aA,if_pos (by simp;omega)]
   ·rw[aF (by simp;omega),List.getElem?_drop];simp only[aT,aE];rw[show n+m+(j-(n+m))=j from by omega];have:(cur.take k)[j]? =some x:=by rw[hk,aA,if_pos hj]
    rw[List.getElem?_take,if_pos hj]at this;exact this
 ·rw[if_neg hj,if_neg hj]
section
variable {P:Program}
theorem BO(w:World)(base:Nat)(t ty e:TypeId)(i:TypeInfo)(z:Value)(bytes:Nat)(ht:P.underlying t=some (.slice e))(hi:P.info? e=some i)(hz:i.zero=some z)
  (nI:i.size=1) (rm:i.bytes=bytes) (Fv:z.cells.size=1) (x:Value) (hx:x.oneCell'=true) (v:Value) (n:Nat) (gY:Row w base e v n x)
  (a:Addr) (m c:Nat) (pz:∀(j:Nat) u,(ak m x)[j]? =some u->w.cell? (a.add j)=some u) (Fj:n+m<=maxLen) (nG:(n+m)*bytes<=140737488355328) (lE:base<=w.heap.size):
  ∃v' w',(Builtin.append_ #[t,t] ty #[v,aj (some a) m c]).run P w=.ok v' w'/\Row w' base e v' (n+m) x/\w.grownBy w' v.ownBlock/\(∀b' u k,Row w b' e u k x->Row w' b' e u k x):=by
 have vh:∀u∈ak m x,u.oneCell'=true:=by
  intro u hu;rw[List.eq_of_mem_replicate hu];exact hx
 have abr:ak n x++ak m x=ak (n+m) x:=by rw[List.replicate_append_replicate]
 rcases gY.2 with⟨rfl,rfl⟩|⟨g,cap,cur,rfl,hbg,hg,s_,nN,lF,C_⟩
 ·obtain⟨v',w',hr,h1,h2,_⟩:=run_append_own (P:=P) w base t ty e i z 1 bytes ht hi hz nI rm Fv (by decide) (aj none 0 0) 0 [] (aq w _ e 1) a m c (ak m x) (by simp) pz vh Fj nG lE;refine⟨v',w',hr,by simpa using h1,h2,fun b' u k hu=>FK hu h2 (by cases u.ownBlock<;>simp[ax])⟩
 ·rw[aL]at lF C_;by_cases mJ:n+m<=cap
  ·have hr:=run_append_room (P:=P) w t ty e i ht hi g n cap cur hg a m c (ak m x) (by simp[nI]) pz vh mJ (by simp[nI];omega);rw[nI,aL,aE]at hr;have xD:n+m<=cur.toList.length:=by simp;omega
   have ku:(cur.toList.take n++ak m x++cur.toList.drop (n+m)).toArray.size=cur.size:=by
    simp only[List.size_toArray,aT,List.length_take,aE,List.length_drop,Array.length_toList];omega
   have Ag:∀b' cu k,b'<=g->k<=cu->cu<=maxLen->cur.size=cu->cur.toList.take k=ak k x->Row (w.setRow g (cur.toList.take n++ak m x++cur.toList.drop (n+m)).toArray) b' e (aj (some ⟨g,0,none⟩) k cu) k x:=by
    intro b' cu k DT hk Wo hs ht';refine⟨by simp,.inr ⟨g,cu,_,rfl,DT,setRow_heap w g cur _ e _ hg,hk,Wo,by rw[ku];omega,?_⟩⟩;rw[aL];exact M4 C_ ht'
   refine⟨_,_,hr,?_,⟨rfl,rfl,rfl,by simp[World.setRow],fun k _ hk=>setRow_other w g k _ (fun e=>hk (by simp[e,ax]))⟩,?_⟩
   ·refine⟨by simp,.inr ⟨g,cap,_,rfl,hbg,setRow_heap w g cur _ e _ hg,mJ,nN,by rw[ku];omega,?_⟩⟩;rw[aL,C_,abr];rw[List.take_append_of_le_length (by simp)];simp
   ·intro b' u k hu;rcases hu.2 with⟨rfl,rfl⟩|⟨g',n_,Lt,rfl,R4,U_,Pp,O8,U7,yw⟩
    ·exact aq _ _ _ _
    ·rw[aL]at U7 yw;by_cases Il:g'=g
     ·subst Il;rw[hg]at U_;simp only[Option.some.injEq,Obj.cells.injEq]at U_;obtain⟨rfl,_⟩:=U_;exact Ag b' n_ k R4 Pp O8 U7 yw
     ·refine⟨by simp,.inr ⟨g',n_,Lt,rfl,R4,by rw[setRow_other w g g' _ Il];exact U_,Pp,O8,by omega,by rw[aL];exact yw⟩⟩
  ·obtain⟨v',w',hr,h1,h2⟩:=run_append_arg_grows (P:=P) w t ty e i z 1 bytes ht hi hz nI rm Fv (by decide) ⟨g,0,none⟩ n cap (ak n x) (by simp) (gY.cells rfl) a m c (ak m x) (by simp) pz (by omega) Fj nG;rw[abr]at h1;exact⟨v',w',hr,iE h1 lE,⟨h2.os,h2.tape,h2.output,h2.size,fun k hk _=>h2.block k hk (by simp)⟩,fun b' u k hu=>FK hu h2 (by cases u.ownBlock<;>simp)⟩
end
def vR(k:Nat):Int:=101+(k:Int)/4%97
theorem JR(k:Nat):101<=vR k/\vR k<198:=by unfold vR;omega
theorem i7(h:w.ownsRow base e 1 v n xs):∃ao cap,v=.slice ao n cap:=by
 rcases h.2 with⟨rfl,rfl⟩|⟨g,cap,cur,rfl,_⟩
 ·exact⟨none,0,rfl⟩
 ·exact⟨_,_,rfl⟩
theorem xw(h:w.ownsRow base e 1 v n xs)(hg:v.ownBlock=some g):∃cur,w.heap[g]? =some (.cells cur e (0,0)):=by
 rcases h.2 with⟨rfl,rfl⟩|⟨g',cap,cur,rfl,_,hh,_⟩
 ·simp[ax]at hg
 ·simp[ax]at hg;subst hg;exact⟨cur,hh⟩
theorem PV{b2:Nat}{v2:Value}{n2:Nat}{x2:List Value}(h1:w.ownsRow b1 e1 1 v1 n1 x1)(h2:w.ownsRow b2 e2 1 v2 n2 x2)(he:e1≠e2):v1.ownBlock=none\/v1.ownBlock≠v2.ownBlock:=by
 cases hv:v1.ownBlock with
 |none=>exact a_ rfl
 |some g=>
  refine aV fun e=>?_
  obtain⟨c1,UP⟩:=xw h1 hv;obtain⟨c2,e2'⟩:=xw h2 e.symm;rw[UP]at e2';simp only[Option.some.injEq,Obj.cells.injEq]at e2';exact he e2'.2.1
theorem Eo{cs:Array Value}{fr:Nat×Nat}(h1:w.ownsRow b1 e1 1 v1 n1 x1)(hg:w.heap[g]? =some (.cells cs e2 fr))(he:e1≠e2):v1.ownBlock≠some g:=by
 intro hv;obtain⟨c1,UP⟩:=xw h1 hv;rw[hg]at UP;simp only[Option.some.injEq,Obj.cells.injEq]at UP;exact he UP.2.1.symm
theorem Ql{k:Nat}(hl:xs.length=n)(hk:k<n):(ak k x++xs.drop k).set k x=ak (k+1) x++xs.drop (k+1):=by
 rw[aZ _ _ (by simp),aE,Nat.sub_self];rw[List.drop_eq_getElem_cons (by omega:k<xs.length)];rw[List.set_cons_zero,List.replicate_succ',List.append_assoc]
 rfl
theorem L7:(ae.info? 44).map (fun i=>(i.zero,i.size,i.bytes))=some (some (aj none 0 0),1,24):=by kernel_rfl
theorem vq{k j:Nat}(h:k%4=0)(hj:j<4):vR (k+j)=vR k:=by
 unfold vR;have:((k+j:Nat):Int)/4=(k:Int)/4:=by omega
 rw[this]
def Dp(c0 c1 c2 c3:Int):Bool:=ls c0 1 8&&(ls c1 8 4096&&(ls c2 8 c1&&ls c3 1 8))
def Dq(c4 c5 c6 c7:Int):Bool:=ls c4 1 8&&(ls c5 0 8&&(ls c6 1 1000&&ls c7 1 1000))
def mD(c0 c1 c2 c3 c4 c5 c6 c7 c8 c9:Int):Bool:=Dp c0 c1 c2 c3&&(Dq c4 c5 c6 c7&&(ls c8 0 100000&&ls c9 0 4294967295))
theorem nY(c0 c1 c2 c3 c4 c5 c6 c7 c8 c9:Int)(w:World):
  Calls ae 59 #[.agg #[af ag c0,af ag c1,af ag c2,af ag c3,af ag c4,af ag c5,af ag c6,af ag c7,af ag c8,af ag c9]] w fun e w'=>e=.returned (.bool (mD c0 c1 c2 c3 c4 c5 c6 c7 c8 c9))/\Below w.heap.size w w':=by
 have hb:=gH w (.cells #[af ag c0,af ag c1,af ag c2,af ag c3,af ag c4,af ag c5,af ag c6,af ag c7,af ag c8,af ag c9] 26);have HB:=gE hb;clear hb;go_enter func59,ntmps59;go_wp2_with (go_at_call 60;refine(ju _ _ _ _).mono ?_;rintro e w' ⟨rfl,rfl⟩)
 all_goals go_ret
 all_goals exact⟨Do (by simp[mD,Dp,Dq, *]),HB.out⟩
def rR(c0 c1 c2 c3 c4 c5 c6 c7 c8 c9:Int):Nat->Int
 |0=>c0
 |1=>c1
 |2=>c2
 |3=>c3
 |4=>c4
 |5=>c5
 |6=>c6
 |7=>c7
 |8=>c8
 |_=>c9
def xI:Nat->Int
 |0=>1
 |1=>8
 |2=>8
 |3=>1
 |4=>1
 |5=>0
 |6=>1
 |7=>1
 |8=>0
 |_=>0
def xE(c1:Int):Nat->Int
 |0=>8
 |1=>4096
 |2=>c1
 |3=>8
 |4=>8
 |5=>8
 |6=>1000
 |7=>1000
 |8=>100000
 |_=>4294967295
def PU(c0 c1 c2 c3 c4 c5 c6 c7 c8 c9:Int)(k:Nat):Bool:=ls (rR c0 c1 c2 c3 c4 c5 c6 c7 c8 c9 k) (xI k) (xE c1 k)
def sD(c0 c1 c2 c3 c4 c5 c6 c7 c8 c9:Int):Int:=if mD c0 c1 c2 c3 c4 c5 c6 c7 c8 c9 then 0 else 1
theorem RB(h:∀j,j<10->PU c0 c1 c2 c3 c4 c5 c6 c7 c8 c9 j=true):sD c0 c1 c2 c3 c4 c5 c6 c7 c8 c9=0:=by
 have h0:=h 0 (by decide);have h1:=h 1 (by decide);have h2:=h 2 (by decide);have h3:=h 3 (by decide);have h4:=h 4 (by decide);have h5:=h 5 (by decide);have h6:=h 6 (by decide);have h7:=h 7 (by decide);have h8:=h 8 (by decide);have h9:=h 9 (by decide);simp only[PU,rR,xI,xE]at h0 h1 h2 h3 h4 h5 h6 h7 h8 h9;simp[sD,mD,Dp,Dq, *]
theorem RC(k:Nat)(hk:k<10)(h:PU c0 c1 c2 c3 c4 c5 c6 c7 c8 c9 k=false):sD c0 c1 c2 c3 c4 c5 c6 c7 c8 c9=1:=by
 match k,hk with
 |0,_|1,_|2,_|3,_|4,_|5,_|6,_|7,_|8,_|9,_=>
  simp only[PU,rR,xI,xE]at h;simp[sD,mD,Dp,Dq,h]
theorem Ch{k:IntKind}(h:a=b):Ending.returned (.int k a)=.returned (.int k b):=by rw[h]
theorem Qy{f:Nat->Bool}{k:Nat}(h:∀j,j<k->f j=true)(hk:f k=true):∀j,j<k+1->f j=true:=by
 intro j hj;rcases aD j k with h1|h1
 ·exact h j h1
 ·obtain rfl:j=k:=by omega
  exact hk
theorem A5{lZ:Array Oper}{rest:List Oper}{o:Oper}{a:Act}{Q:Exit->Act->World->Prop}(sJ:o.guard=none)(ty:TypeId)(x y:Operand)(ho:o.op=.store ty x y)(hd:o.dst=none)
  (cells:Array Value) (g:Nat) (ZW:g=w.heap.size) (hx:a.eval x=ai (some ⟨g,0,none⟩)) (hy:a.eval y=.agg cells)
  (t:TypeId) (yB:Array Value) (hi:(P.info? ty).map (·.size)=some cells.size) (hold:yB.size=cells.size) (h1:cells.all (·.oneCell')=true)
  (h:wpList P lZ Q rest a (w.alloc (.cells cells t))):wpList P lZ Q (o::rest) a (w.alloc (.cells yB t)):=by
 subst ZW;refine wpList_store_row sJ ty x y ho w.heap.size cells hx hy t yB (heap_alloc_last w _) hi hold h1 ?_;rw[hd,aY];exact h
theorem Sf(w:World)(A B:Obj):((w.alloc A).alloc B).heap[w.heap.size+1]? =some B:=by
 have:=heap_alloc_last (w.alloc A) B
 rwa [aB]at this
def lu(c0 c1 c2 c3 c4 c5 c6 c7 c8 c9:Int):Array Value:=
 #[af ag c0,af ag 1,af ag 8,af ag c1,af ag 8,af ag 4096,af ag c2,af ag 8,af ag c1,af ag c3,af ag 1,af ag 8,af ag c4,af ag 1,af ag 8,
  af ag c5,af ag 0,af ag 8,af ag c6,af ag 1,af ag 1000,af ag c7,af ag 1,af ag 1000,af ag c8,af ag 0,af ag 100000,af ag c9,af ag 0,af ag 4294967295]
theorem D_(c0 c1 c2 c3 c4 c5 c6 c7 c8 c9:Int):(lu c0 c1 c2 c3 c4 c5 c6 c7 c8 c9).all (·.oneCell')=true:=by kernel_rfl
theorem Be:(ae.info? 171).map (·.size)=some 30:=by kernel_rfl
theorem Pz(c0 c1 c2 c3 c4 c5 c6 c7 c8 c9:Int)(w:World):(aH 171 (.agg (lu c0 c1 c2 c3 c4 c5 c6 c7 c8 c9)) (af ag ((0:Nat):Int))).run ae w=.ok (.agg #[af ag (rR c0 c1 c2 c3 c4 c5 c6 c7 c8 c9 0),af ag (xI 0),af ag (xE c1 0)]) w:=by kernel_rfl
theorem PA(c0 c1 c2 c3 c4 c5 c6 c7 c8 c9:Int)(w:World):(aH 171 (.agg (lu c0 c1 c2 c3 c4 c5 c6 c7 c8 c9)) (af ag ((1:Nat):Int))).run ae w=.ok (.agg #[af ag (rR c0 c1 c2 c3 c4 c5 c6 c7 c8 c9 1),af ag (xI 1),af ag (xE c1 1)]) w:=by kernel_rfl
theorem PB(c0 c1 c2 c3 c4 c5 c6 c7 c8 c9:Int)(w:World):(aH 171 (.agg (lu c0 c1 c2 c3 c4 c5 c6 c7 c8 c9)) (af ag ((2:Nat):Int))).run ae w=.ok (.agg #[af ag (rR c0 c1 c2 c3 c4 c5 c6 c7 c8 c9 2),af ag (xI 2),af ag (xE c1 2)]) w:=by kernel_rfl
theorem PC(c0 c1 c2 c3 c4 c5 c6 c7 c8 c9:Int)(w:World):(aH 171 (.agg (lu c0 c1 c2 c3 c4 c5 c6 c7 c8 c9)) (af ag ((3:Nat):Int))).run ae w=.ok (.agg #[af ag (rR c0 c1 c2 c3 c4 c5 c6 c7 c8 c9 3),af ag (xI 3),af ag (xE c1 3)]) w:=by kernel_rfl
theorem PD(c0 c1 c2 c3 c4 c5 c6 c7 c8 c9:Int)(w:World):(aH 171 (.agg (lu c0 c1 c2 c3 c4 c5 c6 c7 c8 c9)) (af ag ((4:Nat):Int))).run ae w=.ok (.agg #[af ag (rR c0 c1 c2 c3 c4 c5 c6 c7 c8 c9 4),af ag (xI 4),af ag (xE c1 4)]) w:=by kernel_rfl
theorem PE(c0 c1 c2 c3 c4 c5 c6 c7 c8 c9:Int)(w:World):(aH 171 (.agg (lu c0 c1 c2 c3 c4 c5 c6 c7 c8 c9)) (af ag ((5:Nat):Int))).run ae w=.ok (.agg #[af ag (rR c0 c1 c2 c3 c4 c5 c6 c7 c8 c9 5),af ag (xI 5),af ag (xE c1 5)]) w:=by kernel_rfl
theorem PF(c0 c1 c2 c3 c4 c5 c6 c7 c8 c9:Int)(w:World):(aH 171 (.agg (lu c0 c1 c2 c3 c4 c5 c6 c7 c8 c9)) (af ag ((6:Nat):Int))).run ae w=.ok (.agg #[af ag (rR c0 c1 c2 c3 c4 c5 c6 c7 c8 c9 6),af ag (xI 6),af ag (xE c1 6)]) w:=by kernel_rfl
theorem PG(c0 c1 c2 c3 c4 c5 c6 c7 c8 c9:Int)(w:World):(aH 171 (.agg (lu c0 c1 c2 c3 c4 c5 c6 c7 c8 c9)) (af ag ((7:Nat):Int))).run ae w=.ok (.agg #[af ag (rR c0 c1 c2 c3 c4 c5 c6 c7 c8 c9 7),af ag (xI 7),af ag (xE c1 7)]) w:=by kernel_rfl
theorem PH(c0 c1 c2 c3 c4 c5 c6 c7 c8 c9:Int)(w:World):(aH 171 (.agg (lu c0 c1 c2 c3 c4 c5 c6 c7 c8 c9)) (af ag ((8:Nat):Int))).run ae w=.ok (.agg #[af ag (rR c0 c1 c2 c3 c4 c5 c6 c7 c8 c9 8),af ag (xI 8),af ag (xE c1 8)]) w:=by kernel_rfl
theorem PI(c0 c1 c2 c3 c4 c5 c6 c7 c8 c9:Int)(w:World):(aH 171 (.agg (lu c0 c1 c2 c3 c4 c5 c6 c7 c8 c9)) (af ag ((9:Nat):Int))).run ae w=.ok (.agg #[af ag (rR c0 c1 c2 c3 c4 c5 c6 c7 c8 c9 9),af ag (xI 9),af ag (xE c1 9)]) w:=by kernel_rfl
theorem SP(c0 c1 c2 c3 c4 c5 c6 c7 c8 c9:Int)(k:Nat)(hk:k<10)(w:World):
  (aH 171 (.agg (lu c0 c1 c2 c3 c4 c5 c6 c7 c8 c9)) (af ag k)).run ae w=.ok (.agg #[af ag (rR c0 c1 c2 c3 c4 c5 c6 c7 c8 c9 k),af ag (xI k),af ag (xE c1 k)]) w:=by
 match k,hk with
 |0,_=>exact Pz c0 c1 c2 c3 c4 c5 c6 c7 c8 c9 w
 |1,_=>exact PA c0 c1 c2 c3 c4 c5 c6 c7 c8 c9 w
 |2,_=>exact PB c0 c1 c2 c3 c4 c5 c6 c7 c8 c9 w
 |3,_=>exact PC c0 c1 c2 c3 c4 c5 c6 c7 c8 c9 w
 |4,_=>exact PD c0 c1 c2 c3 c4 c5 c6 c7 c8 c9 w
 |5,_=>exact PE c0 c1 c2 c3 c4 c5 c6 c7 c8 c9 w
 |6,_=>exact PF c0 c1 c2 c3 c4 c5 c6 c7 c8 c9 w
 |7,_=>exact PG c0 c1 c2 c3 c4 c5 c6 c7 c8 c9 w
 |8,_=>exact PH c0 c1 c2 c3 c4 c5 c6 c7 c8 c9 w
 |9,_=>exact PI c0 c1 c2 c3 c4 c5 c6 c7 c8 c9 w
set_option maxRecDepth 20000 in
theorem rh(c0 c1 c2 c3 c4 c5 c6 c7 c8 c9:Int)(w:World):
  Calls ae 52 #[.agg #[af ag c0,af ag c1,af ag c2,af ag c3,af ag c4,af ag c5,af ag c6,af ag c7,af ag c8,af ag c9]] w fun e w'=>e=.returned (af ag (sD c0 c1 c2 c3 c4 c5 c6 c7 c8 c9))/\Below w.heap.size w w':=by
 go_enter func52,ntmps52
 go_wp2_with (first
  |(refine wpList_buildTo rfl 171 _ rfl _ rfl (lu c0 c1 c2 c3 c4 c5 c6 c7 c8 c9) (by kernel_rfl) ?_)
  |(refine A5 rfl 171 _ _ rfl rfl (lu c0 c1 c2 c3 c4 c5 c6 c7 c8 c9) _ (by simp) rfl rfl 171 _ Be rfl (D_ _ _ _ _ _ _ _ _ _ _) ?_)
  |(refine wpList_load_row rfl 171 _ rfl _ rfl 171 (lu c0 c1 c2 c3 c4 c5 c6 c7 c8 c9) (0,0) _ (Sf w _ _) underlying171 rfl Be ?_))
 go_loopw [40] (fun i wr=>∃k:Nat,k<=10/\i=af ag k/\Hid (∀j,j<k->PU c0 c1 c2 c3 c4 c5 c6 c7 c8 c9 j=true)/\Below w.heap.size w wr) (fun i _=>10-(intOf i).toNat)
 case atStart=>exact⟨0,aI _,rfl,fun j hj=>by omega,((gH w _).alloc (by simp) _)⟩
 case round=>
  obtain⟨k,hk,rfl,jR,Yt⟩:=hrel;by_cases jp:k<10
  ·have ku:=Yt.size;have HA:Hid (∀o,Below w.heap.size w (wr.alloc o)):=fun o=>Yt.alloc ku o
   have hix:=SP c0 c1 c2 c3 c4 c5 c6 c7 c8 c9 k jp;have HE:Hid (PU c0 c1 c2 c3 c4 c5 c6 c7 c8 c9 k=ls (rR c0 c1 c2 c3 c4 c5 c6 c7 c8 c9 k) (xI k) (xE c1 k)):=rfl;generalize rR c0 c1 c2 c3 c4 c5 c6 c7 c8 c9 k=x at hix HE;generalize xI k=lo at hix HE;generalize xE c1 k=hi at hix HE
   cases B8:ls x lo hi
   ·go_wp2_with (go_at_call 101;refine(u' _ _ _ _).mono ?_;rintro e w' ⟨rfl,rfl⟩);go_ret;exact⟨Ch (RC k jp (HE.out.trans B8)).symm,HA.out _⟩
   ·go_wp2_with (go_at_call 101;refine(u' _ _ _ _).mono ?_;rintro e w' ⟨rfl,rfl⟩)
    go_roundw
    case rel=>exact⟨k+1,by omega,by go_num,Qy jR.out (HE.out.trans B8),HA.out _⟩
    case measure=>simp[intOf];omega
  ·obtain rfl:k=10:=by omega
   go_wp2_with fail;go_ret;exact⟨Ch (RB jR.out).symm,Yt⟩
def BN(a b c:Int):Int:=if a=0 then(if b=0 then c else b) else a
def uL(a b c:Int):Nat->Int
 |0=>a
 |1=>b
 |_=>c
theorem Y'(k:Nat)(hk:k<3)(h:∀j,j<k->uL a b c j=0)(hn:uL a b c k≠0):uL a b c k=BN a b c:=by
 match k,hk with
 |0,_=>simp only[uL]at hn⊢;simp[BN,hn]
 |1,_=>
  have h0:=h 0 (by decide);simp only[uL]at hn h0⊢;simp[BN,hn,h0]
 |2,_=>
  have h0:=h 0 (by decide);have h1:=h 1 (by decide);simp only[uL]at hn h0 h1⊢;simp[BN,h0,h1]
theorem S8(h:∀j,j<3->uL a b c j=0):(0:Int)=BN a b c:=by
 have h0:=h 0 (by decide);have h1:=h 1 (by decide);have h2:=h 2 (by decide);simp only[uL]at h0 h1 h2;simp[BN,h0,h1,h2]
theorem Qz{f:Nat->Int}{k:Nat}(h:∀j,j<k->f j=0)(hk:f k=0):∀j,j<k+1->f j=0:=by
 intro j hj;rcases aD j k with h1|h1
 ·exact h j h1
 ·obtain rfl:j=k:=by omega
  exact hk
theorem OH(x y z:Int)(b:Nat)(w:World)(hx:w.cell? ⟨b,0,none⟩= some (af ag x))(hy:w.cell? ⟨b,1,none⟩= some (af ag y))(hz:w.cell? ⟨b,2,none⟩= some (af ag z)):
  Calls ae 65 #[aj (some ⟨b,0,none⟩) 3 3] w fun e w'=>e=.returned (af ag (BN x y z))/\w=w':=by
 have HC:Hid (∀j,j<3->w.cell? ⟨b,j,none⟩= some (af ag (uL x y z j))):=by
  intro j hj
  match j,hj with
  |0,_=>exact hx
  |1,_=>exact hy
  |2,_=>exact hz
 clear hx hy hz;go_enter func65,ntmps65
 go_wp2
 go_loop [8] (fun i=>∃k:Nat,k<=3/\i=af ag k/\Hid (∀j,j<k->uL x y z j=0)) (fun i=>3-(intOf i).toNat)
 case atStart=>exact⟨0,aI _,rfl,fun j hj=>by omega⟩
 case round=>
  obtain⟨k,hk,rfl,jR⟩:=hrel;by_cases jp:k<3
  ·have jk:=HC.out k jp;by_cases h0:uL x y z k=0
   ·have HZ:=gE h0;rw[h0]at jk;clear h0
    go_wp2
    go_round
    case rel=>exact⟨k+1,by omega,by go_num,Qz jR.out HZ.out⟩
    case measure=>simp[intOf];omega
   ·have HR:Hid (uL x y z k=BN x y z):=Y' k jp jR.out h0;generalize uL x y z k=v at jk h0 HR;have hb:(v != 0)=true:=by simp[h0]
    go_wp2
    go_ret;exact⟨Ch HR.out,rfl⟩
  ·obtain rfl:k=3:=by omega
   go_wp2
   go_ret;exact⟨Ch (S8 jR.out),rfl⟩
def v8(c0 c1 c2 c3 c4 c5 c6 c7 c8 k a t:Int):Int:=BN (sD c0 c1 c2 c3 c4 c5 c6 c7 c8 k) (oD a 255) (oD t 4294967295)
def DD(c0 c1 c2 c3 c4 c5 c6 c7 c8 k a t:Int):List Int:=if v8 c0 c1 c2 c3 c4 c5 c6 c7 c8 k a t=0 then kr k a t else []
def vZ(c0 c1 c2 c3 c4 c5 c6 c7 c8 k a c:Int):Int:=BN (sD c0 c1 c2 c3 c4 c5 c6 c7 c8 k) (oD a 255) (oD c 1073741823)
def Mu(c0 c1 c2 c3 c4 c5 c6 c7 c8 k a c:Int):Int:=if vZ c0 c1 c2 c3 c4 c5 c6 c7 c8 k a c=0 then kc k a c else 0
theorem xx(h:mD c0 c1 c2 c3 c4 c5 c6 c7 c8 c9=true):0<=c9/\c9<4294967296:=by
 unfold mD at h;simp only[Bool.and_eq_true]at h;have:=nE h.2.2.2;omega
theorem FN(w:World):Calls ae 34 #[] w fun e w'=>e=.returned (.agg #[af ag 2,af ag 16,af ag 8,af ag 2,af ag 2,af ag 1,af ag 10,af ag 5,af ag 1000,af ag 0])/\Below w.heap.size w w':=by
 go_enter func34,ntmps34
 go_wp2
 exact bodyPost_ret (v:=.agg #[af ag 2,af ag 16,af ag 8,af ag 2,af ag 2,af ag 1,af ag 10,af ag 5,af ag 1000,af ag 0]) (by simp[results,Tryz.results34,go_sem]) rfl ⟨rfl,gH w _⟩
theorem Qu(h:v8 c0 c1 c2 c3 c4 c5 c6 c7 c8 k a t=0):mD c0 c1 c2 c3 c4 c5 c6 c7 c8 k=true/\ls a 0 255=true/\ls t 0 4294967295=true:=by
 unfold v8 BN sD oD at h
 cases h1:mD c0 c1 c2 c3 c4 c5 c6 c7 c8 k<;>cases h2:ls a 0 255<;>cases h3:ls t 0 4294967295<;>simp[h1,h2,h3]at h⊢
theorem P0(h:vZ c0 c1 c2 c3 c4 c5 c6 c7 c8 k a t=0):mD c0 c1 c2 c3 c4 c5 c6 c7 c8 k=true/\ls a 0 255=true/\ls t 0 1073741823=true:=by
 unfold vZ BN sD oD at h
 cases h1:mD c0 c1 c2 c3 c4 c5 c6 c7 c8 k<;>cases h2:ls a 0 255<;>cases h3:ls t 0 1073741823<;>simp[h1,h2,h3]at h⊢
theorem TA(a t:Int)(h:mD c0 c1 c2 c3 c4 c5 c6 c7 c8 k=false):v8 c0 c1 c2 c3 c4 c5 c6 c7 c8 k a t=1:=by simp[v8,BN,sD,h]
theorem Kw(h:mD c0 c1 c2 c3 c4 c5 c6 c7 c8 k=true)(h2:ls a 0 255=false\/ls t 0 4294967295=false):v8 c0 c1 c2 c3 c4 c5 c6 c7 c8 k a t=2:=by
 rcases h2 with h2|h2
 ·simp[v8,BN,sD,oD,h,h2]
 ·cases h3:ls a 0 255<;>simp[v8,BN,sD,oD,h,h2,h3]
theorem Tz(h:mD c0 c1 c2 c3 c4 c5 c6 c7 c8 k=true)(h2:ls a 0 255=true)(h3:ls t 0 4294967295=true):v8 c0 c1 c2 c3 c4 c5 c6 c7 c8 k a t=0:=by simp[v8,BN,sD,oD,h,h2,h3]
theorem Ta(a t:Int)(h:mD c0 c1 c2 c3 c4 c5 c6 c7 c8 k=false):vZ c0 c1 c2 c3 c4 c5 c6 c7 c8 k a t=1:=by simp[vZ,BN,sD,h]
theorem J6(h:mD c0 c1 c2 c3 c4 c5 c6 c7 c8 k=true)(h2:ls a 0 255=false\/ls t 0 1073741823=false):vZ c0 c1 c2 c3 c4 c5 c6 c7 c8 k a t=2:=by
 rcases h2 with h2|h2
 ·simp[vZ,BN,sD,oD,h,h2]
 ·cases h3:ls a 0 255<;>simp[vZ,BN,sD,oD,h,h2,h3]
theorem S_(h:mD c0 c1 c2 c3 c4 c5 c6 c7 c8 k=true)(h2:ls a 0 255=true)(h3:ls t 0 1073741823=true):vZ c0 c1 c2 c3 c4 c5 c6 c7 c8 k a t=0:=by simp[vZ,BN,sD,oD,h,h2,h3]
theorem DE(h:v8 c0 c1 c2 c3 c4 c5 c6 c7 c8 k a t=0):DD c0 c1 c2 c3 c4 c5 c6 c7 c8 k a t=kr k a t:=by simp[DD,h]
theorem Cj(h:¬v8 c0 c1 c2 c3 c4 c5 c6 c7 c8 k a t=0):DD c0 c1 c2 c3 c4 c5 c6 c7 c8 k a t=[]:=by simp[DD,h]
theorem J7(h:vZ c0 c1 c2 c3 c4 c5 c6 c7 c8 k a t=0):Mu c0 c1 c2 c3 c4 c5 c6 c7 c8 k a t=kc k a t:=by simp[Mu,h]
theorem Cg(h:¬vZ c0 c1 c2 c3 c4 c5 c6 c7 c8 k a t=0):Mu c0 c1 c2 c3 c4 c5 c6 c7 c8 k a t=0:=by simp[Mu,h]
theorem mQ(im:Below (w.alloc (.cells #[af ag c0,af ag c1,af ag c2,af ag c3,af ag c4,af ag c5,af ag c6,af ag c7,af ag c8,af ag k] 26)).heap.size (w.alloc (.cells #[af ag c0,af ag c1,af ag c2,af ag c3,af ag c4,af ag c5,af ag c6,af ag c7,af ag c8,af ag k] 26)) w1):
  (∀o,(w1.alloc o).cell? ⟨w.heap.size,9,none⟩= some (af ag k))/\(∀j,j<10->w1.cell? ⟨w.heap.size,j,none⟩=(w.alloc (.cells #[af ag c0,af ag c1,af ag c2,af ag c3,af ag c4,af ag c5,af ag c6,af ag c7,af ag c8,af ag k] 26)).cell? ⟨w.heap.size,j,none⟩)/\Below w.heap.size w w1/\w.heap.size<w1.heap.size:=by
 have hs:=im.size;simp only[aB]at hs;refine⟨fun o=>?_,fun j hj=>?_,gI (gH w _) im,by omega⟩
 ·rw[ap _ _ _ (by show w.heap.size<w1.heap.size;omega),im.cell (by simp)];simp
 ·rw[im.cell (by simp)]
theorem xn(x y z:Int)(w:World):Calls ae 65 #[aj (some ⟨w.heap.size,0,none⟩) 3 3] (w.alloc (.cells #[af ag x,af ag y,af ag z] 35)) fun e w'=>e=.returned (af ag (BN x y z))/\w.alloc (.cells #[af ag x,af ag y,af ag z] 35)=w':=
 OH x y z w.heap.size _ (by simp) (by simp) (by simp)
theorem Ot(c0 c1 c2 c3 c4 c5 c6 c7 c8 k a t:Int)(w:World):
  Calls ae 37 #[.agg #[af ag c0,af ag c1,af ag c2,af ag c3,af ag c4,af ag c5,af ag c6,af ag c7,af ag c8,af ag k],af ag a,af ag t] w
   fun e w'=>∃v,e=.returned (.tuple #[v,af ag (v8 c0 c1 c2 c3 c4 c5 c6 c7 c8 k a t)])/\w'.ownsRow w.heap.size 5 1 v (DD c0 c1 c2 c3 c4 c5 c6 c7 c8 k a t).length (U8 (DD c0 c1 c2 c3 c4 c5 c6 c7 c8 k a t))/\Below w.heap.size w w':=by
 by_cases hz:v8 c0 c1 c2 c3 c4 c5 c6 c7 c8 k a t=0
 ·obtain⟨hr,ha,ht⟩:=Qu hz;obtain⟨k0,k1⟩:=xx hr;obtain⟨a0,a1⟩:=nE ha;obtain⟨t0,t1⟩:=nE ht;rw[DE hz];have HZ:=gE hz;have Io:BN (sD c0 c1 c2 c3 c4 c5 c6 c7 c8 k) (oD a 255) (oD t 4294967295)=0:=hz;clear hz hr ha ht;go_enter func37,ntmps37;go_wp2_with fail;refine(rh c0 c1 c2 c3 c4 c5 c6 c7 c8 k _).mono ?_;rintro e w1 ⟨rfl,im⟩;obtain⟨zC,_,lS,ku⟩:=mQ im;clear im;go_wp2_with (first |(go_at_call 47;refine(qe _ _).mono ?_;rintro e w' ⟨rfl,rfl⟩) |(go_at_call 66;refine(E5 _ _).mono ?_;rintro e w' ⟨rfl,rfl⟩) |(go_at_call 65;refine(xn _ _ _ _).mono ?_;rintro e w' ⟨rfl,rfl⟩));refine(yN k a t _ k0 k1 a0 (by omega) t0 (by omega)).mono ?_;rintro e w2 ⟨v,rfl,gY,iT⟩;have mw:Below w.heap.size w w2:=gI (lS.alloc lS.size _) iT;have lk:=iE gY (lS.alloc lS.size (.cells #[af ag (sD c0 c1 c2 c3 c4 c5 c6 c7 c8 k),af ag (oD a 255),af ag (oD t 4294967295)] 35)).size;clear gY iT zC;go_wp2_with fail
  go_ret2
  exact⟨v,by rw[HZ.out];rfl,lk,mw⟩
 ·rw[Cj hz];have Io:BN (sD c0 c1 c2 c3 c4 c5 c6 c7 c8 k) (oD a 255) (oD t 4294967295)=v8 c0 c1 c2 c3 c4 c5 c6 c7 c8 k a t:=rfl;generalize v8 c0 c1 c2 c3 c4 c5 c6 c7 c8 k a t=E at Io hz⊢;have hbe:(E != 0)=true:=by simp[hz]
  go_enter func37,ntmps37;go_wp2_with fail;refine(rh c0 c1 c2 c3 c4 c5 c6 c7 c8 k _).mono ?_;rintro e w1 ⟨rfl,im⟩;obtain⟨zC,_,lS,ku⟩:=mQ im;clear im;go_wp2_with (first |(go_at_call 47;refine(qe _ _).mono ?_;rintro e w' ⟨rfl,rfl⟩) |(go_at_call 66;refine(E5 _ _).mono ?_;rintro e w' ⟨rfl,rfl⟩) |(go_at_call 65;refine(xn _ _ _ _).mono ?_;rintro e w' ⟨rfl,rfl⟩))
  go_ret2
  exact⟨_,rfl,aq _ _ _ _,lS.alloc lS.size _⟩
theorem On(c0 c1 c2 c3 c4 c5 c6 c7 c8 k a t:Int)(w:World):
  Calls ae 57 #[.agg #[af ag c0,af ag c1,af ag c2,af ag c3,af ag c4,af ag c5,af ag c6,af ag c7,af ag c8,af ag k],af ag a,af ag t] w
   fun e w'=>e=.returned (.tuple #[af ag (Mu c0 c1 c2 c3 c4 c5 c6 c7 c8 k a t),af ag (vZ c0 c1 c2 c3 c4 c5 c6 c7 c8 k a t)])/\Below w.heap.size w w':=by
 by_cases hz:vZ c0 c1 c2 c3 c4 c5 c6 c7 c8 k a t=0
 ·obtain⟨hr,ha,ht⟩:=P0 hz;obtain⟨k0,k1⟩:=xx hr;obtain⟨a0,a1⟩:=nE ha;obtain⟨t0,t1⟩:=nE ht;rw[J7 hz];have HZ:=gE hz;have Io:BN (sD c0 c1 c2 c3 c4 c5 c6 c7 c8 k) (oD a 255) (oD t 1073741823)=0:=hz;clear hz hr ha ht;go_enter func57,ntmps57;go_wp2_with fail;refine(rh c0 c1 c2 c3 c4 c5 c6 c7 c8 k _).mono ?_;rintro e w1 ⟨rfl,im⟩;obtain⟨zC,_,lS,ku⟩:=mQ im;clear im;go_wp2_with (first |(go_at_call 47;refine(qe _ _).mono ?_;rintro e w' ⟨rfl,rfl⟩) |(go_at_call 103;refine(ti _ _).mono ?_;rintro e w' ⟨rfl,rfl⟩) |(go_at_call 65;refine(xn _ _ _ _).mono ?_;rintro e w' ⟨rfl,rfl⟩));refine(DK k a t _ k0 k1 a0 (by omega) t0 (by omega)).mono ?_;rintro e w2 ⟨rfl,iT⟩;have mw:Below w.heap.size w w2:=gI (lS.alloc lS.size _) iT;clear iT zC;go_wp2_with fail
  go_ret2
  exact⟨by rw[HZ.out];rfl,mw⟩
 ·rw[Cg hz];have Io:BN (sD c0 c1 c2 c3 c4 c5 c6 c7 c8 k) (oD a 255) (oD t 1073741823)=vZ c0 c1 c2 c3 c4 c5 c6 c7 c8 k a t:=rfl;generalize vZ c0 c1 c2 c3 c4 c5 c6 c7 c8 k a t=E at Io hz⊢;have hbe:(E != 0)=true:=by simp[hz]
  go_enter func57,ntmps57;go_wp2_with fail;refine(rh c0 c1 c2 c3 c4 c5 c6 c7 c8 k _).mono ?_;rintro e w1 ⟨rfl,im⟩;obtain⟨zC,_,lS,ku⟩:=mQ im;clear im;go_wp2_with (first |(go_at_call 47;refine(qe _ _).mono ?_;rintro e w' ⟨rfl,rfl⟩) |(go_at_call 103;refine(ti _ _).mono ?_;rintro e w' ⟨rfl,rfl⟩) |(go_at_call 65;refine(xn _ _ _ _).mono ?_;rintro e w' ⟨rfl,rfl⟩))
  go_ret2
  exact⟨rfl,lS.alloc lS.size _⟩
theorem Dl(c0 c1 c2 c3 c4 c5 c6 c7 c8 k a t:Int)(w:World):
  Calls ae 33 #[.agg #[af ag c0,af ag c1,af ag c2,af ag c3,af ag c4,af ag c5,af ag c6,af ag c7,af ag c8,af ag k],af ag a,af ag t] w
   fun e w'=>∃v,e=.returned (.tuple #[v,af ag (v8 c0 c1 c2 c3 c4 c5 c6 c7 c8 k a t)])/\w'.ownsRow w.heap.size 5 1 v (DD c0 c1 c2 c3 c4 c5 c6 c7 c8 k a t).length (U8 (DD c0 c1 c2 c3 c4 c5 c6 c7 c8 k a t))/\Below w.heap.size w w':=by
 cases hr:mD c0 c1 c2 c3 c4 c5 c6 c7 c8 k
 ·have hz:=TA a t hr;rw[Cj (by rw[hz];decide),hz];clear hz;go_enter func33,ntmps33;go_wp2_with fail;refine(nY c0 c1 c2 c3 c4 c5 c6 c7 c8 k _).mono ?_;rintro e w1 ⟨rfl,im⟩;obtain⟨_,_,lS,ku⟩:=mQ im;clear im;go_wp2_with fail
  go_ret2
  exact⟨_,rfl,aq _ _ _ _,lS⟩
 cases ha:ls a 0 255
 ·have hz:=Kw (t:=t) hr (a_ ha);rw[Cj (by rw[hz];decide),hz];clear hz;go_enter func33,ntmps33;go_wp2_with fail;refine(nY c0 c1 c2 c3 c4 c5 c6 c7 c8 k _).mono ?_;rintro e w1 ⟨rfl,im⟩;obtain⟨_,_,lS,ku⟩:=mQ im;clear im;go_wp2_with (go_at_call 60;refine(ju _ _ _ _).mono ?_;rintro e w' ⟨rfl,rfl⟩)
  go_ret2
  exact⟨_,rfl,aq _ _ _ _,lS⟩
 cases ht:ls t 0 4294967295
 ·have hz:=Kw (a:=a) hr (aV ht);rw[Cj (by rw[hz];decide),hz];clear hz;go_enter func33,ntmps33;go_wp2_with fail;refine(nY c0 c1 c2 c3 c4 c5 c6 c7 c8 k _).mono ?_;rintro e w1 ⟨rfl,im⟩;obtain⟨_,_,lS,ku⟩:=mQ im;clear im;go_wp2_with (go_at_call 60;refine(ju _ _ _ _).mono ?_;rintro e w' ⟨rfl,rfl⟩)
  go_ret2
  exact⟨_,rfl,aq _ _ _ _,lS⟩
 ·have hz:=Tz hr ha ht;rw[DE hz,hz];clear hz;obtain⟨k0,k1⟩:=xx hr;obtain⟨a0,a1⟩:=nE ha;obtain⟨t0,t1⟩:=nE ht;go_enter func33,ntmps33;go_wp2_with fail;refine(nY c0 c1 c2 c3 c4 c5 c6 c7 c8 k _).mono ?_;rintro e w1 ⟨rfl,im⟩;obtain⟨_,mx,lS,ku⟩:=mQ im;have q0:w1.cell? ⟨w.heap.size,0,none⟩= some (af ag c0):=by rw[mx 0 (by decide)];simp
  have q1:w1.cell? ⟨w.heap.size,1,none⟩= some (af ag c1):=by rw[mx 1 (by decide)];simp
  have q2:w1.cell? ⟨w.heap.size,2,none⟩= some (af ag c2):=by rw[mx 2 (by decide)];simp
  have q3:w1.cell? ⟨w.heap.size,3,none⟩= some (af ag c3):=by rw[mx 3 (by decide)];simp
  have q4:w1.cell? ⟨w.heap.size,4,none⟩= some (af ag c4):=by rw[mx 4 (by decide)];simp
  have q5:w1.cell? ⟨w.heap.size,5,none⟩= some (af ag c5):=by rw[mx 5 (by decide)];simp
  have q6:w1.cell? ⟨w.heap.size,6,none⟩= some (af ag c6):=by rw[mx 6 (by decide)];simp
  have q7:w1.cell? ⟨w.heap.size,7,none⟩= some (af ag c7):=by rw[mx 7 (by decide)];simp
  have q8:w1.cell? ⟨w.heap.size,8,none⟩= some (af ag c8):=by rw[mx 8 (by decide)];simp
  have q9:w1.cell? ⟨w.heap.size,9,none⟩= some (af ag k):=by rw[mx 9 (by decide)];simp
  clear im mx;go_wp2_with (go_at_call 60;refine(ju _ _ _ _).mono ?_;rintro e w' ⟨rfl,rfl⟩);refine(yJ c0 c1 c2 c3 c4 c5 c6 c7 c8 k a t _ k0 k1 a0 (by omega) t0 (by omega)).mono ?_;rintro e w2 ⟨v,rfl,gY,iT⟩;have mw:Below w.heap.size w w2:=gI lS iT;have lk:=iE gY lS.size;clear gY iT q0 q1 q2 q3 q4 q5 q6 q7 q8 q9;go_wp2_with fail
  go_ret2
  exact⟨v,rfl,lk,mw⟩
theorem MA(c0 c1 c2 c3 c4 c5 c6 c7 c8 k a t:Int)(w:World):
  Calls ae 115 #[.agg #[af ag c0,af ag c1,af ag c2,af ag c3,af ag c4,af ag c5,af ag c6,af ag c7,af ag c8,af ag k],af ag a,af ag t] w
   fun e w'=>e=.returned (.tuple #[af ag (Mu c0 c1 c2 c3 c4 c5 c6 c7 c8 k a t),af ag (vZ c0 c1 c2 c3 c4 c5 c6 c7 c8 k a t)])/\Below w.heap.size w w':=by
 cases hr:mD c0 c1 c2 c3 c4 c5 c6 c7 c8 k
 ·have hz:=Ta a t hr;rw[Cg (by rw[hz];decide),hz];clear hz;go_enter func115,ntmps115;go_wp2_with fail;refine(nY c0 c1 c2 c3 c4 c5 c6 c7 c8 k _).mono ?_;rintro e w1 ⟨rfl,im⟩;obtain⟨_,_,lS,ku⟩:=mQ im;clear im;go_wp2_with fail
  go_ret2
  exact⟨rfl,lS⟩
 cases ha:ls a 0 255
 ·have hz:=J6 (t:=t) hr (a_ ha);rw[Cg (by rw[hz];decide),hz];clear hz;go_enter func115,ntmps115;go_wp2_with fail;refine(nY c0 c1 c2 c3 c4 c5 c6 c7 c8 k _).mono ?_;rintro e w1 ⟨rfl,im⟩;obtain⟨_,_,lS,ku⟩:=mQ im;clear im;go_wp2_with (go_at_call 60;refine(ju _ _ _ _).mono ?_;rintro e w' ⟨rfl,rfl⟩)
  go_ret2
  exact⟨rfl,lS⟩
 cases ht:ls t 0 1073741823
 ·have hz:=J6 (a:=a) hr (aV ht);rw[Cg (by rw[hz];decide),hz];clear hz;go_enter func115,ntmps115;go_wp2_with fail;refine(nY c0 c1 c2 c3 c4 c5 c6 c7 c8 k _).mono ?_;rintro e w1 ⟨rfl,im⟩;obtain⟨_,_,lS,ku⟩:=mQ im;clear im;go_wp2_with (go_at_call 60;refine(ju _ _ _ _).mono ?_;rintro e w' ⟨rfl,rfl⟩)
  go_ret2
  exact⟨rfl,lS⟩
 ·have hz:=S_ hr ha ht;rw[J7 hz,hz];clear hz;obtain⟨k0,k1⟩:=xx hr;obtain⟨a0,a1⟩:=nE ha;obtain⟨t0,t1⟩:=nE ht;go_enter func115,ntmps115;go_wp2_with fail;refine(nY c0 c1 c2 c3 c4 c5 c6 c7 c8 k _).mono ?_;rintro e w1 ⟨rfl,im⟩;obtain⟨_,mx,lS,ku⟩:=mQ im;have q0:w1.cell? ⟨w.heap.size,0,none⟩= some (af ag c0):=by rw[mx 0 (by decide)];simp
  have q1:w1.cell? ⟨w.heap.size,1,none⟩= some (af ag c1):=by rw[mx 1 (by decide)];simp
  have q2:w1.cell? ⟨w.heap.size,2,none⟩= some (af ag c2):=by rw[mx 2 (by decide)];simp
  have q3:w1.cell? ⟨w.heap.size,3,none⟩= some (af ag c3):=by rw[mx 3 (by decide)];simp
  have q4:w1.cell? ⟨w.heap.size,4,none⟩= some (af ag c4):=by rw[mx 4 (by decide)];simp
  have q5:w1.cell? ⟨w.heap.size,5,none⟩= some (af ag c5):=by rw[mx 5 (by decide)];simp
  have q6:w1.cell? ⟨w.heap.size,6,none⟩= some (af ag c6):=by rw[mx 6 (by decide)];simp
  have q7:w1.cell? ⟨w.heap.size,7,none⟩= some (af ag c7):=by rw[mx 7 (by decide)];simp
  have q8:w1.cell? ⟨w.heap.size,8,none⟩= some (af ag c8):=by rw[mx 8 (by decide)];simp
  have q9:w1.cell? ⟨w.heap.size,9,none⟩= some (af ag k):=by rw[mx 9 (by decide)];simp
  clear im mx;go_wp2_with (go_at_call 60;refine(ju _ _ _ _).mono ?_;rintro e w' ⟨rfl,rfl⟩);refine(yI c0 c1 c2 c3 c4 c5 c6 c7 c8 k a t _ k0 k1 a0 (by omega) t0 (by omega)).mono ?_;rintro e w2 ⟨rfl,iT⟩;have mw:Below w.heap.size w w2:=gI lS iT;clear iT q0 q1 q2 q3 q4 q5 q6 q7 q8 q9;go_wp2_with fail
  go_ret2
  exact⟨rfl,mw⟩
theorem uy(h:w.ownsRow base 5 1 v l.length (U8 l)):(convert 44 9 v).run ae w=.ok (.string (strOfNums l)) w:=by
 rcases aM l.length with h0|h0
 ·obtain rfl:l=[]:=ar h0;rcases h.2 with⟨rfl,_⟩|⟨g,cap,cur,rfl,_⟩
  ·exact run_convert_bytes_nil (P:=ae) w 44 5 underlying44 underlying5 0 0 9 underlying9
  ·exact run_convert_bytes_arg (P:=ae) w 44 5 underlying44 underlying5 g 0 0 cap [] rfl (fun i hi=>absurd hi (by simp)) 9 underlying9
 ·obtain⟨g,cap,rfl,_,_,_⟩:=jP h h0;exact run_convert_bytes_arg (P:=ae) w 44 5 underlying44 underlying5 g 0 l.length cap l rfl (wT h) 9 underlying9
theorem kv.below(h:kv w v l)(hb:Below w.heap.size w w'):kv w' v l:=by
 obtain⟨hl,hm,h|⟨hp,b,off,cap,rfl,nH,hc⟩⟩:=h
 ·exact⟨hl,hm,a_ h⟩
 ·exact⟨hl,hm,aV ⟨hp,b,off,cap,rfl,nH,fun j hj=>gF (hc j hj) hb⟩⟩
theorem J8(n:Int):(Ep n).length<=4:=by
 unfold Ep
 split
 ·exact(jS n).1
 ·simp
theorem iM{O:Obj}(hb:Below (w.alloc O).heap.size (w.alloc O) w1):(∀j,w1.cell? ⟨w.heap.size,j,none⟩=(w.alloc O).cell? ⟨w.heap.size,j,none⟩)/\w.heap.size<w1.heap.size:=by
 have hs:=hb.size;simp only[aB]at hs;exact⟨fun j=>hb.cell (by simp),by omega⟩
theorem kv.YX(hl:iF l)(hm:l.length<=140737488355328)(hg:w.heap[g]? =some (.cells (U8 (l++[77])).toArray 5 (0,0))):kv w (aj (some ⟨g,0,none⟩) l.length (l.length+1)) l:=by
 refine⟨hl,hm,?_⟩;rcases aM l.length with h0|h0
 ·obtain rfl:l=[]:=ar h0;exact a_ ⟨rfl,_,_,rfl⟩
 ·refine aV ⟨h0,g,0,_,rfl,by omega,fun j hj=>?_⟩;simp only[aX,hg,U8,aQ,am hj,Option.getD_some,aJ];simp[aw,hj]
theorem kv.src{ad:Addr}(h:kv w (aj (some ad) l.length cap) l):(∀(j:Nat) u,(U8 l)[j]? =some u->w.cell? (ad.add j)=some u)/\(∀j,j<l.length->∃b off,ad =⟨b,off,none⟩/\w.cell? ⟨b,off+j,none⟩= some (.int .u8 (l.getD j 0))):=by
 obtain⟨hl,hm,⟨rfl,_⟩|⟨hp,b,off,n_,e1,_,hc⟩⟩:=h
 ·exact⟨fun j u hu=>by simp[U8]at hu,fun j hj=>absurd hj (by simp)⟩
 ·simp only[Value.slice.injEq,Option.some.injEq]at e1;obtain⟨rfl,_,rfl⟩:=e1;refine⟨fun j u hu=>?_,fun j hj=>⟨b,off,rfl,hc j hj⟩⟩
  have hj:j<l.length:=by
   have:=(List.getElem?_eq_some_iff.1 hu).1
   rwa [jM]at this
  rw[Addr.add_lit,hc j hj];simp only[U8,List.getElem?_map,am hj,Option.map_some,Option.some.injEq]at hu;rw[<-hu];simp[aQ,am hj]
theorem Kx(c0 c1 c2 c3 c4 c5 c6 c7 c8 k a t:Int):(DD c0 c1 c2 c3 c4 c5 c6 c7 c8 k a t).length<=9:=by
 unfold DD
 split
 ·simp[kr,lx,iL]
 ·simp
structure D2 where
 kd:Int
 on:Int
 a:Int
 b:Int
 nn:Int
 c0:Int
 c1:Int
 c2:Int
 c3:Int
 c4:Int
 c5:Int
 c6:Int
 c7:Int
 c8:Int
 c9:Int
 v:Value
def D2.cells(o:D2):List Value:=[af ag o.kd,af ag o.on,af ag o.a,af ag o.b,af ag o.nn,af ag o.c0,af ag o.c1,af ag o.c2,af ag o.c3,af ag o.c4,af ag o.c5,af ag o.c6,af ag o.c7,af ag o.c8,af ag o.c9,o.v]
def oI(hV gV:Value):List D2:=
 [⟨1,0,70,0,0,0,0,0,0,0,0,0,0,0,0,aj none 0 0⟩,⟨5,0,0,0,0,2,16,8,2,2,1,10,5,1000,0,aj none 0 0⟩,⟨6,0,7,0,0,0,0,0,0,0,0,0,0,0,0,hV⟩,⟨6,0,9,0,0,0,0,0,0,0,0,0,0,0,0,gV⟩,
  ⟨8,0,0,0,0,0,0,0,0,0,0,0,0,0,0,aj none 0 0⟩,⟨9,0,0,0,0,0,0,0,0,0,0,0,0,0,0,aj none 0 0⟩,⟨10,0,5,0,0,0,0,0,0,0,0,0,0,0,0,aj none 0 0⟩,⟨11,0,6,1,9,0,0,0,0,0,0,0,0,0,0,aj none 0 0⟩]
def cellsOf(lZ:List D2):List Value:=lZ.flatMap D2.cells
theorem sC(lZ:List D2):(cellsOf lZ).length=lZ.length*16:=by
 induction lZ with
 |nil=>rfl
 |cons o r ih=>simp only[cellsOf,List.flatMap_cons,aT]at ih⊢;rw[ih];simp[D2.cells];omega
theorem CE(a b:List D2):cellsOf (a++b)=cellsOf a++cellsOf b:=by simp[cellsOf]
def um(hV gV:Value):Array Value:=(cellsOf (oI hV gV)).toArray
theorem Vv:(ae.info? 90).map (fun i=>(i.zero,i.size,i.bytes))=some (some (.agg #[af ag 0,af ag 0,af ag 0,af ag 0,af ag 0,af ag 0,af ag 0,af ag 0,af ag 0,af ag 0,af ag 0,af ag 0,af ag 0,af ag 0,af ag 0,aj none 0 0]),16,144):=by kernel_rfl
def Cu(w:World)(vs:Value)(lZ:List D2):Prop:=
 (lZ=[]/\vs=aj none 0 0)\/∃ad cap,vs=aj (some ad) lZ.length cap/\∀(j:Nat) u,(cellsOf lZ)[j]? =some u->w.cell? (ad.add j)=some u
theorem Qv:DD 2 16 8 2 2 1 10 5 1000 0 9 4=kr 0 9 4:=DE (by decide)
theorem BW{lZ:Array Oper}{rest:List Oper}{o:Oper}{a:Act}{Q:Exit->Act->World->Prop}(hg:o.guard=none)(t e:TypeId)(len:Nat)(parts:Array (Nat×Operand))(ho:o.op=.buildSlice t len parts)
  (d:Option Tmp) (hd:o.dst=d) (cells:Array Value) (ie:TypeInfo) (z:Value) (size:Nat) (ku:ie.size=size)
  (hu:P.underlying t=some (.slice e)) (hie:P.info? e=some ie) (hz:ie.zero=some z) (YL:¬len*size>2 ^ 24) (pA:¬len*size=0)
  (hf:Instr.fill (fun i=>some (i*size,size)) ((Array.range (len*size)).map (z.cells[· % z.cells.size]!)) (parts.map fun(i,x)=>(i,a.eval x)).toList=some cells)
  (h:wpList P lZ Q rest (a.put d (aj (some ⟨w.heap.size,0,none⟩) len len)) (w.alloc (.cells cells e))):wpList P lZ Q (o::rest) a w:=by
 subst ku hd;exact wpList_buildSlice hg t e len parts ho cells ie z hu hie hz YL pA hf h
theorem VE(w:World)(base:Nat)(hb:base<=w.heap.size)(hV gV:Value):(w.alloc (.cells (um hV gV) 90)).ownsRow base 90 16 (aj (some ⟨w.heap.size,0,none⟩) 8 8) 8 (cellsOf (oI hV gV)):=by
 have:=World.ownsRow_lit (base:=base) (e:=90) (size:=16) w (um hV gV) 8 hb (by decide) (by unfold um;rw[List.size_toArray,sC];rfl);simpa[um] using this
theorem Aa{lZ:Array Oper}{rest:List Oper}{o:Oper}{a:Act}{Q:Exit->Act->World->Prop}(sJ:o.guard=none)(s x:Operand)(t:TypeId)
  (ho:o.op=.call {callee:=.builtin .append,args:=#[s,x],argTypes:=#[t,t]})
  (base:Nat) (e:TypeId) (i:TypeInfo) (z:Value) (size bytes:Nat) (ht:P.underlying t=some (.slice e)) (hi:P.info? e=some i) (hz:i.zero=some z)
  (nI:i.size=size) (rm:i.bytes=bytes) (Fv:z.cells.size=size) (ku:0<size)
  (v:Value) (n:Nat) (xs:List Value) (hs:a.eval s=v) (gY:w.ownsRow base e size v n xs)
  (sv:Value) (m:Nat) (news:List Value) (hx:a.eval x=sv) (Ej:(sv=aj none 0 0/\m=0/\news=[])\/∃ad c,sv=aj (some ad) m c/\∀(j:Nat) u,news[j]? =some u->w.cell? (ad.add j)=some u) (hl:news.length=m*size) (h1:∀u∈news,u.oneCell'=true)
  (Fj:n+m<=maxLen) (nG:(n+m)*bytes<=140737488355328) (lE:base<=w.heap.size)
  (h:∀v' w',w'.ownsRow base e size v' (n+m) (xs++news)->w.grownBy w' v.ownBlock->wpList P lZ Q rest (a.put o.dst v') w'):wpList P lZ Q (o::rest) a w:=by
 rcases Ej with⟨rfl,rfl,rfl⟩|⟨ad,c,rfl,hc⟩
 ·refine wpList_append_own_none sJ s x t ho base e i size ht hi v n xs hs gY hx (h v w (by simpa using gY) (oG (Below.refl _ _) _))
 ·exact wpList_append_own w sJ s x t ho base e i z size bytes ht hi hz nI rm Fv ku v n xs hs gY ad m c news hx hl hc h1 Fj nG lE (fun v' w' h1 h2 _=>h v' w' h1 h2)
theorem CF(lZ:List D2):∀(k:Nat) (hk:k<lZ.length) (j:Nat),j<16->(cellsOf lZ)[k*16+j]? =(lZ[k]).cells[j]?:=by
 induction lZ with
 |nil=>intro k hk;simp at hk
 |cons o r ih=>
  intro k hk j hj;have e:cellsOf (o::r)=o.cells++cellsOf r:=by simp[cellsOf]
  have hl:o.cells.length=16:=rfl;rw[e]
  cases k with
  |zero=>rw[aw (by omega)];simp
  |succ k=>
   rw[aF (by omega),hl,show(k+1)*16+j-16=k*16+j from by omega,ih k (by simpa using hk) j hj];simp
theorem Mp(h:w.ownsRow base e 16 v n xs)(hn:0<n):∃g cap,v=aj (some ⟨g,0,none⟩) n cap/\base<=g/\g<w.heap.size/\n<=cap:=by
 rcases h.2 with⟨_,h0⟩|⟨g,cap,cur,rfl,hb,hg,s_,_⟩
 ·omega
 ·exact⟨g,cap,rfl,hb,(aO.1 hg).1,s_⟩
theorem Cu.src{vs:Value}{lZ:List D2}(h:Cu w vs lZ)(hb:Below w.heap.size w w'):(vs=aj none 0 0/\lZ.length=0/\cellsOf lZ=[])\/∃ad c,vs=aj (some ad) lZ.length c/\∀(j:Nat) u,(cellsOf lZ)[j]? =some u->w'.cell? (ad.add j)=some u:=by
 rcases h with⟨rfl,rfl⟩|⟨ad,cap,rfl,hc⟩
 ·exact a_ ⟨rfl,rfl,rfl⟩
 ·exact aV ⟨ad,cap,rfl,fun j u hu=>gF (hc j u hu) hb⟩
theorem IL{lZ:List D2}(h:∀o∈lZ,o.v.oneCell'=true):∀u∈cellsOf lZ,u.oneCell'=true:=by
 intro u hu;obtain⟨o,ho,hu⟩:=List.mem_flatMap.1 hu;have:=h o ho;simp only[D2.cells,List.mem_cons,List.not_mem_nil,or_false]at hu;rcases hu with rfl|rfl|rfl|rfl|rfl|rfl|rfl|rfl|rfl|rfl|rfl|rfl|rfl|rfl|rfl|rfl
 all_goals first|rfl|exact this
theorem pI:ae.cellsOf 3=1:=by kernel_rfl
theorem Nv:ae.cellsOf 26=10:=by kernel_rfl
theorem UI:ae.cellsOf 44=1:=by kernel_rfl
theorem Nw:ae.cellsOf 90=16:=by kernel_rfl
theorem XG:ae.cellsOf 5=1:=by kernel_rfl
theorem jd{α:Type}{l:List α}(h:l.length=n+1):∃x r,l=x::r:=by
 cases l with
 |nil=>simp at h
 |cons x r=>exact⟨x,r,rfl⟩
theorem abK{α:Type}{l:List α}(h:l.length=10):∃x0 x1 x2 x3 x4 x5 x6 x7 x8 x9:α,l=[x0,x1,x2,x3,x4,x5,x6,x7,x8,x9]:=by
 obtain⟨x0,l0,rfl⟩:=jd (n:=9) h;have h0:l0.length=9:=by simpa using h
 obtain⟨x1,l1,rfl⟩:=jd (n:=8) h0;have h1:l1.length=8:=by simpa using h0
 obtain⟨x2,l2,rfl⟩:=jd (n:=7) h1;have h2:l2.length=7:=by simpa using h1
 obtain⟨x3,l3,rfl⟩:=jd (n:=6) h2;have h3:l3.length=6:=by simpa using h2
 obtain⟨x4,l4,rfl⟩:=jd (n:=5) h3;have h4:l4.length=5:=by simpa using h3
 obtain⟨x5,l5,rfl⟩:=jd (n:=4) h4;have h5:l5.length=4:=by simpa using h4
 obtain⟨x6,l6,rfl⟩:=jd (n:=3) h5;have h6:l6.length=3:=by simpa using h5
 obtain⟨x7,l7,rfl⟩:=jd (n:=2) h6;have h7:l7.length=2:=by simpa using h6
 obtain⟨x8,l8,rfl⟩:=jd (n:=1) h7;have h8:l8.length=1:=by simpa using h7
 obtain⟨x9,l9,rfl⟩:=jd (n:=0) h8;have h9:l9.length=0:=by simpa using h8
 obtain rfl:=ar h9;exact⟨x0,x1,x2,x3,x4,x5,x6,x7,x8,x9,rfl⟩
theorem abL{α:Type}{l:List α}(h:l.length=16):∃x0 x1 x2 x3 x4 x5 x6 x7 x8 x9 Ud Ue Uf Ug Uh QE:α,l=[x0,x1,x2,x3,x4,x5,x6,x7,x8,x9,Ud,Ue,Uf,Ug,Uh,QE]:=by
 obtain⟨x0,l0,rfl⟩:=jd (n:=15) h;have h0:l0.length=15:=by simpa using h
 obtain⟨x1,l1,rfl⟩:=jd (n:=14) h0;have h1:l1.length=14:=by simpa using h0
 obtain⟨x2,l2,rfl⟩:=jd (n:=13) h1;have h2:l2.length=13:=by simpa using h1
 obtain⟨x3,l3,rfl⟩:=jd (n:=12) h2;have h3:l3.length=12:=by simpa using h2
 obtain⟨x4,l4,rfl⟩:=jd (n:=11) h3;have h4:l4.length=11:=by simpa using h3
 obtain⟨x5,l5,rfl⟩:=jd (n:=10) h4;have h5:l5.length=10:=by simpa using h4
 obtain⟨x6,l6,rfl⟩:=jd (n:=9) h5;have h6:l6.length=9:=by simpa using h5
 obtain⟨x7,l7,rfl⟩:=jd (n:=8) h6;have h7:l7.length=8:=by simpa using h6
 obtain⟨x8,l8,rfl⟩:=jd (n:=7) h7;have h8:l8.length=7:=by simpa using h7
 obtain⟨x9,l9,rfl⟩:=jd (n:=6) h8;have h9:l9.length=6:=by simpa using h8
 obtain⟨Ud,l10,rfl⟩:=jd (n:=5) h9;have RR:l10.length=5:=by simpa using h9
 obtain⟨Ue,l11,rfl⟩:=jd (n:=4) RR;have US:l11.length=4:=by simpa using RR
 obtain⟨Uf,l12,rfl⟩:=jd (n:=3) US;have UT:l12.length=3:=by simpa using US
 obtain⟨Ug,l13,rfl⟩:=jd (n:=2) UT;have h13:l13.length=2:=by simpa using UT
 obtain⟨Uh,l14,rfl⟩:=jd (n:=1) h13;have h14:l14.length=1:=by simpa using h13
 obtain⟨QE,l15,rfl⟩:=jd (n:=0) h14;have h15:l15.length=0:=by simpa using h14
 obtain rfl:=ar h15;exact⟨x0,x1,x2,x3,x4,x5,x6,x7,x8,x9,Ud,Ue,Uf,Ug,Uh,QE,rfl⟩
section
variable {H:Type}{enc:TypeId×Value->H}{w:World}{spare:Nat->Bool}{held:Bool}
theorem kQ{n:Nat}{x:Value}{xs:List (DataW H×List MemPlace)}{i:Nat}(hi:i<xs.length)(h:aK enc ae w 0 spare held n 3 [x]=xs[i]?):∃c,x=af ag c:=by
 rw[am hi]at h;obtain⟨c,e,_⟩:=DataW.trod_int underlying3 h;simp only[List.cons.injEq,and_true]at e;exact⟨c,e⟩
theorem IM{n:Nat}{cs:List Value}{x:DataW H×List MemPlace}(h:aK enc ae w 0 spare held n 26 cs=some x):
  ∃c0 c1 c2 c3 c4 c5 c6 c7 c8 c9:Int,cs=[af ag c0,af ag c1,af ag c2,af ag c3,af ag c4,af ag c5,af ag c6,af ag c7,af ag c8,af ag c9]:=by
 obtain⟨xs,m,_,_,hl,i8,hf⟩:=DataW.trod_struct underlying26 h;have Bc:xs.length=10:=i8;rw[Nv]at hl;obtain⟨x0,x1,x2,x3,x4,x5,x6,x7,x8,x9,rfl⟩:=abK hl;have g0:aK enc ae w 0 spare held m 3 ((aR 0 [x0,x1,x2,x3,x4,x5,x6,x7,x8,x9]).take (ae.cellsOf 3))=xs[0]?:=hf 0 _ rfl;rw[pI]at g0;obtain⟨c0,rfl⟩:=kQ (xs:=xs) (i:=0) (by omega) (by simpa using g0);have g1:aK enc ae w 0 spare held m 3 ((aR 1 [af ag c0,x1,x2,x3,x4,x5,x6,x7,x8,x9]).take (ae.cellsOf 3))=xs[1]?:=hf 1 _ rfl;rw[pI]at g1;obtain⟨c1,rfl⟩:=kQ (xs:=xs) (i:=1) (by omega) (by simpa using g1);have g2:aK enc ae w 0 spare held m 3 ((aR 2 [af ag c0,af ag c1,x2,x3,x4,x5,x6,x7,x8,x9]).take (ae.cellsOf 3))=xs[2]?:=hf 2 _ rfl;rw[pI]at g2;obtain⟨c2,rfl⟩:=kQ (xs:=xs) (i:=2) (by omega) (by simpa using g2);have g3:aK enc ae w 0 spare held m 3 ((aR 3 [af ag c0,af ag c1,af ag c2,x3,x4,x5,x6,x7,x8,x9]).take (ae.cellsOf 3))=xs[3]?:=hf 3 _ rfl;rw[pI]at g3;obtain⟨c3,rfl⟩:=kQ (xs:=xs) (i:=3) (by omega) (by simpa using g3);have g4:aK enc ae w 0 spare held m 3 ((aR 4 [af ag c0,af ag c1,af ag c2,af ag c3,x4,x5,x6,x7,x8,x9]).take (ae.cellsOf 3))=xs[4]?:=hf 4 _ rfl;rw[pI]at g4;obtain⟨c4,rfl⟩:=kQ (xs:=xs) (i:=4) (by omega) (by simpa using g4);have g5:aK enc ae w 0 spare held m 3 ((aR 5 [af ag c0,af ag c1,af ag c2,af ag c3,af ag c4,x5,x6,x7,x8,x9]).take (ae.cellsOf 3))=xs[5]?:=hf 5 _ rfl;rw[pI]at g5;obtain⟨c5,rfl⟩:=kQ (xs:=xs) (i:=5) (by omega) (by simpa using g5);have g6:aK enc ae w 0 spare held m 3 ((aR 6 [af ag c0,af ag c1,af ag c2,af ag c3,af ag c4,af ag c5,x6,x7,x8,x9]).take (ae.cellsOf 3))=xs[6]?:=hf 6 _ rfl;rw[pI]at g6;obtain⟨c6,rfl⟩:=kQ (xs:=xs) (i:=6) (by omega) (by simpa using g6);have g7:aK enc ae w 0 spare held m 3 ((aR 7 [af ag c0,af ag c1,af ag c2,af ag c3,af ag c4,af ag c5,af ag c6,x7,x8,x9]).take (ae.cellsOf 3))=xs[7]?:=hf 7 _ rfl;rw[pI]at g7;obtain⟨c7,rfl⟩:=kQ (xs:=xs) (i:=7) (by omega) (by simpa using g7);have g8:aK enc ae w 0 spare held m 3 ((aR 8 [af ag c0,af ag c1,af ag c2,af ag c3,af ag c4,af ag c5,af ag c6,af ag c7,x8,x9]).take (ae.cellsOf 3))=xs[8]?:=hf 8 _ rfl;rw[pI]at g8;obtain⟨c8,rfl⟩:=kQ (xs:=xs) (i:=8) (by omega) (by simpa using g8);have g9:aK enc ae w 0 spare held m 3 ((aR 9 [af ag c0,af ag c1,af ag c2,af ag c3,af ag c4,af ag c5,af ag c6,af ag c7,af ag c8,x9]).take (ae.cellsOf 3))=xs[9]?:=hf 9 _ rfl;rw[pI]at g9;obtain⟨c9,rfl⟩:=kQ (xs:=xs) (i:=9) (by omega) (by simpa using g9);exact⟨c0,c1,c2,c3,c4,c5,c6,c7,c8,c9,rfl⟩
end
theorem N_(w:World):(sizeOf (ae.elem 44)).run ae w=.ok 1 w:=by kernel_rfl
theorem vf:ae.underlying 44=some (.slice (ae.elem 44)):=by kernel_rfl
theorem kv.form(h:kv w v l):∃ao cap,v=.slice ao l.length cap:=by
 obtain⟨_,_,⟨rfl,ao,cap,rfl⟩|⟨_,b,off,cap,rfl,_,_⟩⟩:=h
 ·exact⟨ao,cap,rfl⟩
 ·exact⟨_,cap,rfl⟩
theorem pR{ao:Option Addr}(h:kv w (.slice ao l.length cap) l)(nH:l.length<=cap)(lo hi:Nat)(h1:lo<=hi)(h2:hi<=l.length):
  kv w (sliced ao lo hi cap 1) ((l.drop lo).take (hi-lo)):=by
 have i8:((l.drop lo).take (hi-lo)).length=hi-lo:=by simp;omega
 obtain⟨hl,hm,hh⟩:=h;refine⟨fun x hx=>hl x (List.mem_of_mem_drop (List.mem_of_mem_take hx)),by omega,?_⟩;rcases aM (hi-lo) with h0|h0
 ·refine a_ ⟨ar (by omega),?_⟩;unfold sliced;rw[h0];exact⟨_,_,rfl⟩
 ·rcases hh with⟨rfl,_⟩|⟨_,b,off,n_,e,_,hc⟩
  ·simp at h2;omega
  ·simp only[Value.slice.injEq]at e;obtain⟨rfl,_,rfl⟩:=e;refine aV ⟨by omega,b,off+lo,cap-lo,?_,by omega,fun j hj=>?_⟩
   ·unfold sliced;rw[if_neg (by omega),i8];simp[Addr.add_lit]
   ·rw[i8]at hj;rw[Nat.add_assoc,hc (lo+j) (by omega)];simp[aQ,hj]
theorem sx(ao:Option Addr)(n cap:Nat)(Ow:Nat)(h:Ow<=n)(w:World):(Instr.sliceAt 44 (.slice ao n cap) (some (af ag Ow)) none none).run ae w=.ok (sliced ao Ow n cap 1) w:=by
 rw[run_sliceAt_slice (h:=vf),run_slice_l (ht:=vf) (h0:=by omega) (h1:=by omega),N_];simp[aG]
theorem Dv(ao:Option Addr)(n cap:Nat)(lo hi:Nat)(h:lo<=hi)(h2:hi<=cap)(w:World):(Instr.sliceAt 44 (.slice ao n cap) (some (af ag lo)) (some (af ag hi)) none).run ae w=.ok (sliced ao lo hi cap 1) w:=by
 rw[run_sliceAt_slice (h:=vf),run_slice_lh (ht:=vf) (h0:=by omega) (h1:=by omega) (h2:=by omega),N_];simp[aG]
end Go.Proofs.YthmdjhlhodpbhaaGreatDoor
