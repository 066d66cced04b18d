import Derived.WalkKit
import Derived.Below
import Derived.Laws.BitsAllLaws
import Derived.Laws.BitsLemmas
import Derived.Test.YthmdjhlhodpbhaaGreatDoorProg
import Derived.Lib.ItoaLen
import Derived.LaidEql
import Derived.Stop.Asserts
import Derived.RowKitTokens
import Derived.Lib.ReflectliteSlice
import Derived.Test.YthmdjhlhodpbhaaGreatDoorShelf
set_option maxHeartbeats 16000000
set_option maxRecDepth 8000
set_option linter.all false
namespace Go.Proofs.YthmdjhlhodpbhaaGreatDoor
open Go.RowKit Go.Extern Go.Extern.Stop Go.Stop
open Go.World renaming cell?_alloc_lt → aj, ownsRow_nil → ak, frozen?_alloc_old → al, size_alloc → az, cell? → aD
open _root_.Array renaming getElem?_eq_none → am
open _root_.List renaming getElem?_eq_getElem → ap, nil_append → ax
open Go.Value renaming ownBlock → aq, slice → aJ
open _root_.Nat renaming le_refl → ar, zero_add → aw, lt_or_ge → ay, add_zero → aF
open Go.Result renaming andThen → au
open _root_.Int renaming toNat_natCast → aA, eq_ofNat_of_zero_le → aB
open _root_.Go renaming method → aC, World → aK, Calls → aL, Value → aM, wpList_append_own → aN, maxLen → aO, info_parts → aP, rounds_succ → aR, wp_loop_rounds → aS
open Go.Obj renaming cells → aE
open Go.Sem renaming run_bind → aG
open _root_.BitVec renaming ofInt → aH
open Go.Sort renaming grow → aI
open Go.RowKit renaming intOf → aQ
open _root_.Go.Proofs.Tryz
open _root_.Go.Proofs.Tryz renaming prog → ab
open Go.Value renaming int → ae, slice → ai, pointer → ag
open Go.IntKind renaming i64 → af
variable {b w z5:World}{c g l:Int}{a d cap f:Nat}{k:List Int}{e h:Value}{o:List Value}{y3 u1:Addr}{z:TypeId}{u2:Option Nat}{R:Option Addr}
abbrev II(x:Int):aM:=ae af x
abbrev Ad(b o:Nat):Addr:=⟨b,o,none⟩
abbrev Pt(b:Nat):aM:=ag (some ⟨b,0,none⟩)
abbrev CV(w:aK)(b o:Nat)(v:aM):Prop:=w.cell? ⟨b,o,none⟩= some v
abbrev CI(w:aK)(b o:Nat)(x:Int):Prop:=w.cell? ⟨b,o,none⟩= some (ae af x)
abbrev Bw(w w':aK):Prop:=Below w.heap.size w w'
abbrev mc(w:aK)(b o:Nat):Prop:=w.frozen? ⟨b,o,none⟩= false
abbrev gf(w:aK)(o:Nat):Addr:=⟨w.heap.size,o,none⟩
abbrev lq(w x:aK)(o:Nat)(v:aM):Prop:=w.cell? ⟨x.heap.size,o,none⟩= some v
abbrev io(w x:aK)(o:Nat)(v:Int):Prop:=w.cell? ⟨x.heap.size,o,none⟩= some (ae af v)
theorem iL{D:Array aM}{x3:Nat×Nat}(f:b.heap[a]? =some (.cells D z x3))(c:D.toList[d]? =some e):b.cell? ⟨a,d,none⟩= some e:=by simp only[aD,f];rw[<-c];simp
abbrev L4:=(#[ai none 0 0,.bool false,.bool false]:Array aM)
abbrev zf:=fun a0 a1 a2 a3 a4 a5 a6 a7 a8 a9 Nx Ny Nz NA NB NC=>(#[II a0,II a1,II a2,II a3,II a4,II a5,II a6,II a7,II a8,II a9,II Nx,II Ny,II Nz,II NA,II NB,NC]:Array aM)
abbrev J4:=fun(a0:aK) a1=>((a0.alloc (.cells #[ag (some a1)] 160)).alloc (.cells #[ag (some (Ad 4 160)),Pt a0.heap.size,.int .u64 150] 217)).alloc (.cells #[ag (some (Ad 4 160)),Pt a0.heap.size,.int .u64 150] 217)
abbrev RL:=fun(a0:aK) (a1:aK)=>((((a0.setCell (Ad a1.heap.size 0) (II 0)).setCell (Ad a1.heap.size 1) (II 0)).setCell (Ad a1.heap.size 2) (II 0)).setCell (Ad a1.heap.size 3) (ai none 0 0)).setCell (Ad a1.heap.size 4) (II 0)
abbrev Tn:=fun(a0:aK) (a1:aK) a2 a3 a4 a5 a6 a7=>(((((a0.setCell (Ad a1.heap.size 0) a2).setCell (Ad a1.heap.size 1) a3).setCell (Ad a1.heap.size 2) a4).setCell (Ad a1.heap.size 3) a5).setCell (Ad a1.heap.size 4) a6).setCell (Ad a1.heap.size 5) a7
abbrev R':=fun(a0:aK) (a1:aK) a2 a3 a4 a5 a6 a7=>(((((a0.setCell (Ad a1.heap.size 0) (a2)).setCell (Ad a1.heap.size 1) (a3)).setCell (Ad a1.heap.size 2) (a4)).setCell (Ad a1.heap.size 3) (a5)).setCell (Ad a1.heap.size 4) (a6)).setCell (Ad a1.heap.size 5) (a7)
abbrev vw:=fun a0=>(#[.string ⟨#[100,97,116,97,103,114,97,109]⟩,.iface 155 (Pt a0)]:Array aM)
abbrev Mg:=(#[.bool false,II 0,II 0,II 0,II 0,II 0]:Array aM)
abbrev xF:=fun a0=>aE #[.string ⟨#[102,114,97,109,101]⟩,.iface 155 (Pt a0)] 157
abbrev Kj:=(#[.int .u8 1,.int .u8 5,.int .u8 0,.int .u8 0,.int .u8 0,.int .u8 0,.int .u8 3,.int .u8 0,.int .u8 0,.int .u8 2,.int .u8 104,.int .u8 105]:Array aM)
abbrev HW:=fun(a0:aK) a1=>(a0.alloc (.cells #[ag (some a1)] 160)).alloc (.cells #[ag (some (Ad 4 160)),Pt a0.heap.size,.int .u64 150] 217)
abbrev sn:=fun(a0:aK) a1 a2 a3 a4 a5=>a0.alloc (.cells #[.slice a1 a2 a3,.bool a4,.bool a5] 46)
abbrev uz:=fun(a0:aK)=>a0.alloc (.cells L4 46)
abbrev C':=(#[II 0,ai none 0 0]:Array aM)
abbrev tK:=aE #[II 0,.bool false] 142
abbrev nr:=fun a0 a1 a2=>aJ (some (Ad a0 0)) a1 a2
abbrev rf:=fun a0 a1 a2 a3 a4 a5=>(#[II a0,II a1,II a2,a3,II a4,II a5]:Array aM)
abbrev th:=fun a0 a1 a2 a3 a4 a5 a6 a7 a8 a9=>(#[II a0,II a1,II a2,II a3,II a4,II a5,II a6,II a7,II a8,II a9]:Array aM)
abbrev nQ:=fun(a0:aK) a1 a2 a3 a4 a5 a6 a7 a8 a9 Nx Ny Nz NA NB NC Qy=>a0.alloc (.cells (zf a1 a2 a3 a4 a5 a6 a7 a8 a9 Nx Ny Nz NA NB NC Qy) 90)
abbrev ti:=aE L4 46 (0,0)
abbrev E_:=Value.iface 263 (.agg #[ag (some (Ad 4 109))])
abbrev tL:=fun(a0:aK) a1 a2 a3 a4 a5 a6=>a0.alloc (.cells (rf a1 a2 a3 a4 a5 a6) 286)
abbrev Qw:=fun a0 (a1:aK) a2=>(#[II a0,ai (some (Ad a1.heap.size 0)) a2 a2]:Array aM)
abbrev xG:=fun(a0:aK)=>Ad (a0.heap.size+1) 0
abbrev HY:=fun a0 (a1:aK)=>(RL a0 a1).setCell (Ad a1.heap.size 5) (ai none 0 0)
abbrev Kk:=fun(a0:aK)=>Ad (a0.heap.size+1) 1
abbrev Kl:=(#[ai none 0 0,ai none 0 0,ai none 0 0]:Array aM)
abbrev C_:=fun(a0:aK) a1 a2=>a0.setCell (Ad a1 10) (II a2)
abbrev Sc:=fun(a0:aK) a1=>(a0.setCell (Ad a1 13) (ai none 0 0)).alloc (.cells L4 46)
abbrev Mj:=fun(a0:aK)=>a0.alloc (.cells Mg 34)
abbrev zp:=aE #[.int .u8 20] 5
abbrev uA:=fun(a0:aK)=>a0.alloc (.map #[] 0)
abbrev O5:=fun a0 a1=>aJ (some (Ad a0 0)) a1 a1
abbrev H0:=fun a0 (a1:aK)=>(RL a0 a1).setCell (Ad a1.heap.size 5) (II 0)
abbrev zq:=fun a0 a1 a2=>aJ (some (Ad a0 0)) a1 a2
abbrev Mk:=fun a0=>(#[ag (some (Ad 4 160)),ag (some a0),.int .u64 150]:Array aM)
abbrev Ml:=fun a0=>(#[ag (some (Ad 4 158)),ag (some a0),.int .u64 406]:Array aM)
abbrev Mm:=fun(a0:aK) a1 a2 a3 a4=>((a0.setCell (Ad a1 0) a2).setCell (Ad a1 1) (.bool a3)).setCell (Ad a1 2) (.bool a4)
abbrev Fb:=(#[ag (some (Ad 4 158))]:Array aM)
abbrev Kn:=(#[II 7,II 0,II 0,II 0,ai none 0 0]:Array aM)
abbrev Ko:=(#[II 6,II 0,II 0,II 0,ai none 0 0]:Array aM)
abbrev Kp:=(#[II 5,II 0,II 0,II 0,ai none 0 0]:Array aM)
abbrev Kq:=(#[II 4,II 0,II 0,II 0,ai none 0 0]:Array aM)
abbrev Kr:=(#[II 3,II 0,II 0,II 0,ai none 0 0]:Array aM)
abbrev Sd:=fun a0 a1 a2=>(#[II a0,ai (some (Ad a1 0)) a2 a2]:Array aM)
abbrev Bv:=fun a0 a1=>aE #[II a0,.bool a1] 142
abbrev Fc:=fun a0=>Value.iface 158 (ag (some a0))
abbrev Sf:=fun(a0:aK) a1 a2 a3=>(a0.alloc (.cells a1 5)).alloc (.cells (Qw a2 a0 a3) 259)
attribute [local simp] CV CI Bw mc lq io
def U8(l:List Int):List aM:=l.map (Value.int .u8)
theorem ir(a:List Int):(U8 a).length=a.length:=by simp[U8]
theorem nP(a r:List Int):U8 (a++r)=U8 a++U8 r:=by simp[U8]
theorem fK{w7:Prop}(a:w7):Hid w7:=a
def gG(l:List Int):Prop:=∀x∈l,0<=x/\x<256
def jx(n a b:Int):Bool:=decide (a<=n/\n<=b)
theorem lh(a:jx c g l=true):g<=c/\c<=l:=of_decide_eq_true a
def gE(n:Int):List Int:=
 if n<64 then [n] else if n<16384 then [64+n/256,n%256] else [128+n/16777216,n/65536%256,n/256%256,n%256]
def gZ(n:Int):List Int:=[n%256,n/256%256,n/65536%256,n/16777216%256]
def oV(s c:Int):Int:=((s.toNat ^^^ c.toNat:Nat):Int)*16777619%4294967296
def qW(l:List Int):Int:=l.foldl oV 2166136261
def kJ(a t:Int):List Int:=a::gZ t
def jg(k a t:Int):List Int:=kJ a t++gZ (qW (gZ k++kJ a t))
def i_(k a c:Int):Int:=qW (gZ k++[255,a]++gZ c)%1073741824
theorem kp:gG (gZ c):=by intro b a;simp[gZ]at a;omega
theorem gG.append{l r:List Int}(c:gG l)(d:gG r):gG (l++r):=by
 intro b e;rcases List.mem_append.1 e with a|a
 ·exact c b a
 ·exact d b a
theorem gG.cons{a:Int}{l:List Int}(c:0<=a/\a<256)(d:gG l):gG (a::l):=by
 intro f e;rcases List.mem_cons.1 e with b|b
 ·subst b;exact c
 ·exact d f b
theorem gG.nil:gG []:=by intro b a;cases a
theorem zH:0<=oV c g/\oV c g<4294967296:=by unfold oV;omega
theorem DA:∀a:Int,0<=a/\a<4294967296->0<=k.foldl oV a/\k.foldl oV a<4294967296:=by
 induction k with
 |nil=>grind
 |cons c k b=>intro a _;exact b _ (zH)
theorem n'(a:List Int):0<=qW a/\qW a<4294967296:=DA _ (by decide)
theorem A_(b:List Int)(a:Int):qW (b++[a])=oV (qW b) a:=by simp[qW,List.foldl_append]
theorem Bi(a:0<=c)(b:c<2 ^ 63):IntKind.i64.wrap c=c:=by rw[IntKind.wrap_i64];omega
theorem Ge(i:Nat)(x y:Int)(SX:0<=x)(hx:x%2 ^ i=0)(Rn:x<2 ^ 63)(P9:0<=y)(hy:y<2 ^ i)(S3:y<2 ^ 63):bits .or .i64 x y=x+y:=
 bits_join .i64 63 (by decide) (fun _=>Bi) _ x y SX hx Rn P9 hy S3
theorem Rr(a:0<=c)(b:c<64):bits .or .i64 64 c=64+c:=Ge 6 64 c (by decide) (by decide) (by decide) a b (by omega)
theorem Pz(a:0<=c)(b:c<64):bits .or .i64 128 c=128+c:=Ge 6 128 c (by decide) (by decide) (by decide) a b (by omega)
theorem Tg(d:0<=c)(e:c<16777216)(a:0<=g)(b:g<256):bits .or .i64 (c*256) g=c*256+g:=
 Ge 8 (c*256) g (by omega) (by omega) (by omega) a b (by omega)
theorem M5(d:0<=c)(k:c<4294967296)(e:0<=g)(l:g<256):bits .xor .i64 c g=((c.toNat ^^^ g.toNat:Nat):Int):=by
 obtain⟨a,rfl⟩:=aB d;obtain⟨b,rfl⟩:=aB e;have h:a<2 ^ 63:=by omega
 have j:b<2 ^ 63:=by omega
 have m:a ^^^ b<2 ^ 63:=Nat.xor_lt_two_pow h j;have f:(aH 64 (a:Int) ^^^ aH 64 (b:Int)).toNat=a ^^^ b:=by rw[BitVec.toNat_xor,ofInt_u64 a (by omega),ofInt_u64 b (by omega)]
 show IntKind.i64.wrap ((aH 64 (a:Int) ^^^ aH 64 (b:Int)).toNat:Int)=_;rw[f,aA,aA];exact Bi (Int.natCast_nonneg _) (by omega)
theorem Oz(b:c<4294967296)(d:g<256):((c.toNat ^^^ g.toNat:Nat):Int)<4294967296:=by have a:c.toNat ^^^ g.toNat<4294967296:=Nat.xor_lt_two_pow (n:=32) (x:=c.toNat) (y:=g.toNat) (by omega) (by omega);omega
theorem mw(b:aK)(e:TypeId)(a:List aM)(c:a.length<=aO):
  (b.alloc (.cells a.toArray e)).ownsRow b.heap.size e 1 (ai (some (Ad b.heap.size 0)) a.length a.length) a.length a:=by
 have:=World.ownsRow_lit (base:=b.heap.size) (e:=e) (size:=1) b a.toArray a.length (ar _) c (by simp);simpa using this
theorem fO(b:aK)(a:Obj):Bw b (b.alloc a):=(Below.refl _ _).alloc (ar _) a
theorem mv:aL ab 110 #[II c] b fun a d=>a=.returned (II c)/\b=d:=by go_enter func110,ntmps110;go_wp2;go_ret;exact⟨rfl,rfl⟩
theorem yz{O z0:Bool}(a:O=z0):Ending.returned (.bool O)=.returned (.bool z0):=by rw[a]
theorem h_(c a b:Int)(d:aK):aL ab 60 #[II c,II a,II b] d fun e f=>e=.returned (.bool (jx c a b))/\d=f:=by
 go_enter func60,ntmps60;go_wp2;all_goals go_ret
 all_goals exact⟨yz (by unfold jx;simp;try omega),rfl⟩
theorem ri:aL ab 101 #[II c,II g,II l] b fun a d=>a=.returned (.bool (jx c g l))/\b=d:=by
 go_enter func101,ntmps101;go_wp2;all_goals go_ret
 all_goals exact⟨yz (by unfold jx;simp;try omega),rfl⟩
def lr(n g:Int):Int:=if jx n 0 g then 0 else 2
theorem rh:aL ab 88 #[II c,II g] b fun a d=>a=.returned (II (lr c g))/\b=d:=by
 unfold lr;cases e:jx c 0 g;all_goals
  go_enter func88,ntmps88;go_wp2_with (go_at_call 101;refine(ri).mono ?_;rintro a d ⟨rfl,rfl⟩);go_ret;exact⟨rfl,rfl⟩
theorem ni:aL ab 103 #[II c] b fun a d=>a=.returned (II (lr c 1073741823))/\b=d:=by go_enter func103,ntmps103;go_wp2_with (go_at_call 88;refine(rh).mono ?_;rintro a d ⟨rfl,rfl⟩);go_ret;exact⟨rfl,rfl⟩
theorem nz:aL ab 47 #[II c] b fun a d=>a=.returned (II (lr c 255))/\b=d:=by go_enter func47,ntmps47;go_wp2_with (go_at_call 88;refine(rh).mono ?_;rintro a d ⟨rfl,rfl⟩);go_ret;exact⟨rfl,rfl⟩
theorem Ag:aL ab 66 #[II c] b fun a d=>a=.returned (II (lr c 4294967295))/\b=d:=by go_enter func66,ntmps66;go_wp2_with (go_at_call 88;refine(rh).mono ?_;rintro a d ⟨rfl,rfl⟩);go_ret;exact⟨rfl,rfl⟩
def kt(c:Int):Int:=if c<64 then 1 else if c<128 then 2 else if c<192 then 4 else 0
theorem oH:aL ab 183 #[.int .u8 c] b fun a d=>a=.returned (II (kt c))/\b=d:=by
 unfold kt;go_enter func183,ntmps183;go_wp2;all_goals go_ret
 all_goals (refine⟨?_,rfl⟩;repeat' split)<;>first|rfl|omega
theorem lm(h:0<=c)(j:c<=1073741823):aL ab 155 #[II c] b fun a g=>∃f,a=.returned f/\g.ownsRow b.heap.size 5 1 f (gE c).length (U8 (gE c))/\Bw b g:=by
 by_cases d:c<64
 ·have a:gE c=[c]:=by unfold gE;rw[if_pos d]
  rw[a];go_enter func155,ntmps155;go_wp2;go_ret;exact⟨_,rfl,mw _ _ _ (by simp[U8,aO]),fO _ _⟩
 by_cases e:c<16384
 ·have a:gE c=[64+c/256,c%256]:=by unfold gE;rw[if_neg d,if_pos e]
  rw[a];go_enter func155,ntmps155;go_wp2;go_ret;exact⟨_,rfl,mw _ _ _ (by simp[U8,aO]),fO _ _⟩
 ·have a:gE c=[128+c/16777216,c/65536%256,c/256%256,c%256]:=by unfold gE;rw[if_neg d,if_neg e]
  rw[a];go_enter func155,ntmps155;go_wp2;go_ret;exact⟨_,rfl,mw _ _ _ (by simp[U8,aO]),fO _ _⟩
theorem lE:(ab.info? 5).map (fun i=>(i.zero,i.size,i.bytes))=some (some (.int .u8 0),1,1):=by kernel_rfl
theorem ms:∀b∈U8 k,b.oneCell'=true:=by intro b a;simp only[U8,List.mem_map]at a;obtain⟨c,_,rfl⟩:=a;rfl
theorem gY(c:o.length<=aO):∀(a:Nat) u,o[a]? =some u->(b.alloc (.cells o.toArray z)).cell? (((gf b 0):Addr).add a)=some u:=
 (mw _ _ _ c).cells rfl
theorem ga{u9:Obj}(a:(b.alloc u9).grownBy w u2):b.grownBy w u2:=
 ⟨a.os,a.tape,a.output,by have:=a.size;simp at this;omega,fun c d e=>(a.block c (by simp;omega) e).trans (Below.heap_alloc b u9 c d)⟩
theorem kq{e:Option Nat}(a:b.grownBy w u2)(d:w.grownBy z5 e)(h:e=u2\/∀c,e=some c->b.heap.size<=c):b.grownBy z5 u2:=
 ⟨d.os.trans a.os,d.tape.trans a.tape,d.output.trans a.output,Nat.le_trans a.size d.size,fun c f g=>by have:c<w.heap.size:=Nat.lt_of_lt_of_le f a.size;rw[d.block c this (by grind)];exact a.block c f g⟩
theorem lz(a:b.grownBy w none):Bw b w:=⟨a.os,a.tape,a.output,a.size,fun d c=>a.block d c (by simp)⟩
theorem mf(a:Bw b w):b.grownBy w u2:=⟨a.os,a.tape,a.output,a.size,fun d c _=>a.block d c⟩
theorem kY(w:0<=c)(x:c<=1073741823)(l:b.ownsRow a 5 1 e d o)(z:a<=b.heap.size)(A:d<=70368744177664):
  aL ab 105 #[e,II c] b fun f t=>∃j,f=.returned j/\t.ownsRow a 5 1 j (d+(gE c).length) (o++U8 (gE c))/\b.grownBy t e.ownBlock:=by
 obtain⟨q,hi,m,n,p⟩:=aP lE;by_cases k:c<64
 ·have f:gE c=[c]:=by unfold gE;rw[if_pos k]
  rw[f];go_enter func105,ntmps105;go_wp2_with (at_builtin;refine aN _ rfl _ _ 44 rfl a 5 q (.int .u8 0) 1 1 underlying44 hi m n p rfl (by decide) e d o rfl (l.alloc _) (gf b 0) 1 1 (U8 [c]) rfl rfl (gY (by simp[U8,aO])) (ms) (by unfold aO;omega) (by omega) (by simp;omega) ?_;intro j u h g _);go_ret;exact⟨_,rfl,h,ga g⟩
 by_cases s:c<16384
 ·have f:gE c=[64+c/256,c%256]:=by unfold gE;rw[if_neg k,if_pos s]
  rw[f];have v:=Rr (c:=c/256) (by omega) (by omega);go_enter func105,ntmps105;go_wp2_with (at_builtin;refine aN _ rfl _ _ 44 rfl a 5 q (.int .u8 0) 1 1 underlying44 hi m n p rfl (by decide) e d o rfl (l.alloc _) (gf b 0) 2 2 (U8 [64+c/256,c%256]) rfl rfl (gY (by simp[U8,aO])) (ms) (by unfold aO;omega) (by omega) (by simp;omega) ?_;intro j u h g _);go_ret;exact⟨_,rfl,h,ga g⟩
 ·have f:gE c=[128+c/16777216,c/65536%256,c/256%256,c%256]:=by unfold gE;rw[if_neg k,if_neg s]
  rw[f];have v:=Pz (c:=c/16777216) (by omega) (by omega);go_enter func105,ntmps105;go_wp2_with (at_builtin;refine aN _ rfl _ _ 44 rfl a 5 q (.int .u8 0) 1 1 underlying44 hi m n p rfl (by decide) e d o rfl (l.alloc _) (gf b 0) 4 4 (U8 [128+c/16777216,c/65536%256,c/256%256,c%256]) rfl rfl (gY (by simp[U8,aO])) (ms) (by unfold aO;omega) (by omega) (by simp;omega) ?_;intro j u h g _);go_ret;exact⟨_,rfl,h,ga g⟩
theorem lP(u:0<=c)(v:c<4294967296)(m:b.ownsRow f 5 1 e d o)(w:f<=b.heap.size)(x:d<=70368744177664):
  aL ab 127 #[e,.int .u32 c] b fun k j=>∃g,k=.returned g/\j.ownsRow f 5 1 g (d+4) (o++U8 (gZ c))/\b.grownBy j e.ownBlock:=by
 obtain⟨t,hi,p,q,s⟩:=aP lE;have h:gZ c=[c%256,c/256%256,c/65536%256,c/16777216]:=by unfold gZ;rw[Int.emod_eq_of_lt (a:=c/16777216) (by omega) (by omega)]
 rw[h];clear h;go_enter func127,ntmps127;go_wp2_with (at_builtin;refine aN _ rfl _ _ 44 rfl f 5 t (.int .u8 0) 1 1 underlying44 hi p q s rfl (by decide) e d o rfl (m.alloc _) (gf b 0) 4 4 (U8 [c%256,c/256%256,c/65536%256,c/16777216]) rfl rfl (gY (by simp[U8,aO])) (ms) (by unfold aO;omega) (by omega) (by simp;omega) ?_;intro g y n l _);go_ret;exact⟨_,rfl,n,ga l⟩
theorem iC(f:b.ownsRow a z 1 e d o)(l:0<d):∃c cap,e=ai (some (Ad c 0)) d cap/\a<=c/\c<b.heap.size/\d<=cap:=by
 rcases f.2 with⟨_,h⟩|⟨c,cap,g,rfl,j,k,m,_⟩
 ·omega
 grind
theorem jO{z2:List Int}(c:b.ownsRow a 5 1 e k.length (U8 k))(d:b.ownsRow a 5 1 h z2.length (U8 z2))(E:0<k.length)(G:0<z2.length)(O:k.length<=1000)(P:z2.length<=1000):
  aL ab 106 #[e,h] b fun z v=>∃t,z=.returned t/\v.ownsRow b.heap.size 5 1 t (k++z2).length (U8 (k++z2))/\Bw b v:=by
 obtain⟨q,hi,n,o,p⟩:=aP lE;obtain⟨l,y,rfl,K,L,I⟩:=iC c E;obtain⟨m,cb,rfl,M,N,J⟩:=iC d G;have j:=c.cells rfl;have x:Hid (b.ownsRow a 5 1 (ai (some (Ad m 0)) z2.length cb) z2.length (U8 z2)):=d;have w:Hid (∀(s:Nat) u,(U8 k)[s]? =some u->b.cell? (((Ad l 0):Addr).add s)=some u):=j;clear j c d;go_enter func106,ntmps106;go_wp2_with (first
  |(at_builtin;refine aN _ rfl _ _ 44 rfl b.heap.size 5 q (.int .u8 0) 1 1 underlying44 hi n o p rfl (by decide) (ai none 0 0) 0 [] rfl (ak _ _ _ _) (Ad l 0) k.length y (U8 k) rfl (by simp[U8]) w.out (ms) (by unfold aO;omega) (by omega) (ar _) ?_;intro H R g f _;simp only[aw,ax]at g)
  |(at_builtin;refine aN _ rfl _ _ 44 rfl b.heap.size 5 q (.int .u8 0) 1 1 underlying44 hi n o p rfl (by decide) H k.length (U8 k) rfl g (Ad m 0) z2.length cb (U8 z2) rfl (by simp[U8]) ((x.out.kept f (Or.inr (by simp[aq]))).cells rfl) (ms) (by unfold aO;omega) (by omega) f.size ?_;intro Q S C A _))
 go_ret;refine⟨_,rfl,by rw[nP];exact C,?_⟩;exact lz (kq f A (Or.inr fun D B=>(g.lt D B).1))
theorem Bd(b:a<k.length):k.take (a+1)=k.take a++[k.getD a 0]:=by rw[List.take_succ_eq_append_getElem b];grind
theorem EN(u:gG k)(cap:Nat)(A:k.length<=1000000)(l:∀e,e<k.length->CV b a (d+e) (.int .u8 (k.getD e 0))):
  aL ab 128 #[ai (some (Ad a d)) k.length cap] b fun q x=>q=.returned (.int .u32 (qW k))/\b=x:=by
 have o:Hid (∀e,e<k.length->CV b a (d+e) (.int .u8 (k.getD e 0))):=l;clear l;go_enter func128,ntmps128;go_wp2;go_loop [3,8] (fun g i=>∃c:Nat,c<=k.length/\i=II c/\g=.int .u32 (qW (k.take c))) (fun _ i=>k.length-(aQ i).toNat);case atStart=>exact⟨0,Nat.zero_le _,rfl,rfl⟩
 case round=>
  obtain⟨c,z,rfl,rfl⟩:=hrel;by_cases h:c<k.length
  ·have t:=o.out c h;have f:=A_ (k.take c) (k.getD c 0);rw[<-Bd h]at f;have m:0<=k.getD c 0/\k.getD c 0<256:=u _ (by simp[List.getD,ap h]);have n:=n' (k.take c);generalize k.getD c 0=j at t f m;generalize qW (k.take c)=g at f n⊢;obtain⟨s,y⟩:=m;obtain⟨v,w⟩:=n;have B:=u32_xor g j v w s (by omega);have p:Hid (qW (k.take (c+1))=oV g j):=f;clear f;go_wp2;go_round;case rel=>exact⟨c+1,by omega,by go_num,by rw[p.out];rfl⟩
   case measure=>simp[aQ];omega
  ·obtain rfl:c=k.length:=by omega
   go_wp2;go_ret;exact⟨rfl,rfl⟩
theorem Eu(w:gG k)(cap:Nat)(A:k.length<=1000000)(j:∀e,e<k.length->CV b a (d+e) (.int .u8 (k.getD e 0))):
  aL ab 108 #[ai (some (Ad a d)) k.length cap] b fun t y=>t=.returned (II (qW k))/\b=y:=by
 have p:Hid (∀e,e<k.length->CV b a (d+e) (.int .u8 (k.getD e 0))):=j;clear j;go_enter func108,ntmps108;go_wp2;go_loop [3,4] (fun h i=>∃c:Nat,c<=k.length/\i=II c/\h=II (qW (k.take c))) (fun _ i=>k.length-(aQ i).toNat);case atStart=>exact⟨0,Nat.zero_le _,rfl,rfl⟩
 case round=>
  obtain⟨c,z,rfl,rfl⟩:=hrel;by_cases g:c<k.length
  ·have v:=p.out c g;have f:=A_ (k.take c) (k.getD c 0);rw[<-Bd g]at f;have m:0<=k.getD c 0/\k.getD c 0<256:=w _ (by simp[List.getD,ap g]);have o:=n' (k.take c);generalize k.getD c 0=s at v f m;generalize qW (k.take c)=h at f o⊢;obtain⟨u,l⟩:=m;obtain⟨x,n⟩:=o;have B:=M5 x n u l;have C:=Oz n l;have q:Hid (qW (k.take (c+1))=oV h s):=f;clear f;go_wp2;go_round;case rel=>exact⟨c+1,by omega,by go_num,by rw[q.out];rfl⟩
   case measure=>simp[aQ];omega
  ·obtain rfl:c=k.length:=by omega
   go_wp2;go_ret;exact⟨rfl,rfl⟩
def sh(m:Int):Nat->Int
 |0=>m
 |k+1=>sh m k/256
theorem AW(b:0<=c)(a:Nat):0<=sh c a:=by
 induction a with
 |zero=>exact b
 |succ a d=>unfold sh;omega
theorem PU(b:0<=c):sh c a<=c:=by
 induction a with
 |zero=>exact Int.le_refl _
 |succ a d=>have:=AW b a;unfold sh;omega
theorem IA(b:a<4):(gZ c).take (a+1)=(gZ c).take a++[sh c a%256]:=by
 match a,b with
 |0,_=>simp[gZ,sh]
 |1,_=>simp[gZ,sh]
 |2,_=>simp[gZ,sh];omega
 |3,_=>simp[gZ,sh];omega
theorem gq{n:Nat}(j:b.ownsRow a z f e n o)(m:d<=a):b.ownsRow d z f e n o:=by
 obtain⟨k,c⟩:=j;refine⟨k,?_⟩;rcases c with c|⟨h,cap,g,l,p,r⟩
 ·exact Or.inl c
 ·exact Or.inr ⟨h,cap,g,l,by omega,r⟩
theorem qT(k:0<=c)(C:c<4294967296):
  aL ab 107 #[II c] b fun n l=>∃h,n=.returned h/\l.ownsRow b.heap.size 5 1 h 4 (U8 (gZ c))/\Bw b l:=by
 obtain⟨A,hi,x,y,z⟩:=aP lE;go_enter func107,ntmps107;go_wp2;go_loopw [0,3,4] (fun d B i wr=>∃a:Nat,a<=4/\i=II a/\d=II (sh c a)/\wr.ownsRow b.heap.size 5 1 B a (U8 ((gZ c).take a))/\Bw b wr) (fun _ _ i _=>4-(aQ i).toNat);case atStart=>exact⟨0,Nat.zero_le _,rfl,rfl,ak _ _ _ _,Below.refl _ _⟩
 case round=>
  obtain⟨a,D,rfl,rfl,f,e⟩:=hrel;have u:=AW k a;have v:=PU k (a:=a);have w:=e.size;by_cases s:a<4
  ·have g:=IA (c:=c) s;have j:Hid (sh c (a+1)=sh c a/256):=rfl;generalize sh c a=d at g u v j⊢;have m:Hid ((gZ c).take (a+1)=(gZ c).take a++[d%256]):=g;clear g;go_wp2_with (at_builtin;refine aN _ rfl _ _ 44 rfl b.heap.size 5 A (.int .u8 0) 1 1 underlying44 hi x y z rfl (by decide) _ a (U8 ((gZ c).take a)) rfl (f.alloc _) (gf wr 0) 1 1 (U8 [d%256]) rfl rfl (gY (by simp[U8,aO])) (ms) (by unfold aO;omega) (by omega) (by simp;omega) ?_;intro h E t q _);go_roundw;case rel=>refine⟨a+1,by omega,by go_num,by rw[j.out],by rw[m.out,nP];exact t,?_⟩;exact e.trans (((fO _ _).mono w).grown q (by simp;omega) (fun o p=>(f.lt o p).1))
   case measure=>simp[aQ];omega
  ·obtain rfl:a=4:=by omega
   go_wp2;go_ret;exact⟨_,rfl,f,e⟩
def zy(n:Int):List Int:=if jx n 0 1073741823 then gE n else []
theorem Eh(a:jx c 0 1073741823=true):zy c=gE c:=by simp[zy,a]
theorem Hr(a:jx c 0 1073741823=false):zy c=[]:=by simp[zy,a]
theorem xH(a:jx c 0 g=true):lr c g=0:=by simp[lr,a]
theorem Bx(a:jx c 0 g=false):lr c g=2:=by simp[lr,a]
theorem hJ(a:Int):(gE a).length<=4/\0<(gE a).length:=by unfold gE;grind
theorem zl:aL ab 58 #[II c] b fun e d=>∃g,e=.returned (.tuple #[g,II (lr c 1073741823)])/\d.ownsRow b.heap.size 5 1 g (zy c).length (U8 (zy c))/\Bw b d:=by
 cases a:jx c 0 1073741823
 ·rw[Bx a,Hr a];have k:=Bx a;clear a;go_enter func58,ntmps58;go_wp2_with (go_at_call 103;refine(ni).mono ?_;rintro e d ⟨rfl,rfl⟩);go_ret2;exact⟨_,rfl,ak _ _ _ _,Below.refl _ _⟩
 ·rw[xH a,Eh a];have k:=xH a;obtain⟨h,j⟩:=lh a;clear a;go_enter func58,ntmps58;go_wp2_with (first |(go_at_call 103;refine(ni).mono ?_;rintro e d ⟨rfl,rfl⟩) |(go_at_call 105;refine(kY h j (ak _ _ _ _) (ar _) (by decide)).mono ?_;rintro e d ⟨m,rfl,f,l⟩));go_ret2;simp only[aw,ax]at f;exact⟨_,rfl,f,lz l⟩
theorem yt:aL ab 109 #[II c] b fun e d=>∃f,e=.returned (.tuple #[f,II (lr c 1073741823)])/\d.ownsRow b.heap.size 5 1 f (zy c).length (U8 (zy c))/\Bw b d:=by
 cases a:jx c 0 1073741823
 ·rw[Bx a,Hr a];go_enter func109,ntmps109;go_wp2_with (go_at_call 60;refine(h_ _ _ _ _).mono ?_;rintro e d ⟨rfl,rfl⟩);go_ret2;exact⟨_,rfl,ak _ _ _ _,Below.refl _ _⟩
 ·rw[xH a,Eh a];obtain⟨g,h⟩:=lh a;go_enter func109,ntmps109;go_wp2_with (first |(go_at_call 60;refine(h_ _ _ _ _).mono ?_;rintro e d ⟨rfl,rfl⟩) |(go_at_call 155;refine(lm g h).mono ?_;rintro e d ⟨l,rfl,k,j⟩));go_ret2;exact⟨_,rfl,k,j⟩
theorem sE(e:b.ownsRow a 5 1 (nr d f cap) f (U8 k)):∀c,c<k.length->b.cell? (Ad d (0+c))=some (.int .u8 (k.getD c 0)):=by
 intro c g;have h:k.length=f:=by have:=e.1;simpa[U8] using this
 rw[aw,e.cellAt c (by omega)];simp[U8,List.getD,ap g]
theorem un(c a b:Int)(d:aK)(X:0<=c)(Y:c<4294967296)(H:0<=a)(I:a<256)(Z:0<=b)(a0:b<4294967296):
  aL ab 67 #[II c,II a,II b] d fun g D=>∃C,g=.returned C/\D.ownsRow d.heap.size 5 1 C 9 (U8 (jg c a b))/\Bw d D:=by
 obtain⟨W,hi,T,U,V⟩:=aP lE;go_enter func67,ntmps67;go_wp2_with fail;refine(lP (c:=b) Z a0 (f:=d.heap.size) (d:=1) (o:=U8 [a]) (mw d 5 (U8 [a]) (by simp[U8,aO])) (by simp) (by decide)).mono ?_;rintro g E ⟨b2,rfl,p,h⟩;go_wp2_with fail;refine(lP X Y (ak _ _ _ _) (ar _) (by decide)).mono ?_;rintro g t ⟨b3,rfl,q,f⟩;simp only[aw,ax]at q;obtain⟨l,c1,rfl,a3,S,a6⟩:=iC p (by decide);obtain⟨N,J,rfl,a4,a9,a7⟩:=iC q (by decide);have y:=p.kept f (Or.inr (by simp[aq]));have v:Hid (t.ownsRow d.heap.size 5 1 (ai (some (Ad l 0)) (1+4) c1) (1+4) (U8 [a]++U8 (gZ b))):=y;clear y p;have G:=fK h;have u:=fK f;clear h f;go_wp2_with (at_builtin;refine aN _ rfl _ _ 44 rfl E.heap.size 5 W (.int .u8 0) 1 1 underlying44 hi T U V rfl (by decide) (ai (some (Ad N 0)) 4 J) 4 (U8 (gZ c)) rfl q (Ad l 0) (1+4) c1 (U8 [a]++U8 (gZ b)) rfl (by simp[U8,gZ]) (v.out.cells rfl) (by rw[<-nP];exact ms) (by decide) (by decide) u.out.size ?_;intro b4 a1 s o _);have h:=G.out;have f:=u.out;obtain⟨a2,K,rfl,a5,b0,a8⟩:=iC s (by decide);have L:U8 (gZ c)++(U8 [a]++U8 (gZ b))=U8 (gZ c++kJ a b):=by simp[U8,kJ]
 rw[L]at s;have O:gG (gZ c++kJ a b):=(kp).append (gG.cons ⟨H,I⟩ (kp));have z:(gZ c++kJ a b).length=4+(1+4):=by simp[gZ,kJ]
 have B:=EN O K (by rw[z];decide) (sE s);rw[z]at B;refine B.mono ?_;rintro g b6 ⟨rfl,rfl⟩;have A:=n' (gZ c++kJ a b);have b1:l<t.heap.size:=Nat.lt_of_lt_of_le S f.size;have Q:=v.out.kept o (Or.inr (by simp[aq];omega));go_wp2_with fail;refine(lP A.1 A.2 Q (by have:=h.size;have:=f.size;have:=o.size;simp at *;omega) (by decide)).mono ?_;rintro g b7 ⟨b5,rfl,R,P⟩;go_wp2_with fail;go_ret;refine⟨_,rfl,?_,?_⟩
 ·have M:U8 [a]++U8 (gZ b)++U8 (gZ (qW (gZ c++kJ a b)))=U8 (jg c a b):=by simp[U8,jg,kJ]
  rw[<-M];exact R
 ·have j:Bw d E:=(fO _ _).grown h (by simp) (fun k e=>by simp[aq]at e;omega);have w:Bw d t:=j.grown f j.size (fun k e=>by simp[aq]at e);have x:Bw d a1:=w.grown o w.size (fun k e=>by simp[aq]at e;have:=j.size;omega);exact x.grown P x.size (fun k e=>by simp[aq]at e;omega)
theorem yY(I:0<=c)(J:c<4294967296)(v:0<=g)(w:g<256)(c0:0<=l)(z:l<4294967296):
  aL ab 104 #[II c,II g,II l] b fun a L=>a=.returned (II (i_ c g l))/\Bw b L:=by
 obtain⟨H,hi,D,E,G⟩:=aP lE;go_enter func104,ntmps104;go_wp2_with fail;refine(lP I J (ak _ _ _ _) (ar _) (by decide)).mono ?_;rintro a u ⟨K,rfl,d,k⟩;simp only[aw,ax]at d;have C:b.heap.size<=u.heap.size:=k.size;go_wp2_with (at_builtin;refine aN _ rfl _ _ 44 rfl b.heap.size 5 H (.int .u8 0) 1 1 underlying44 hi D E G rfl (by decide) K 4 (U8 (gZ c)) rfl (d.alloc _) (gf u 0) 2 2 (U8 [255,g]) rfl rfl (gY (by simp[U8,aO])) (ms) (by decide) (by decide) (by simp;omega) ?_;intro V M m o _);have f:Bw b M:=((lz k).alloc C _).grown o (by simp;omega) (fun h j=>(d.lt h j).1);refine(lP c0 z m f.size (by decide)).mono ?_;rintro a N ⟨W,rfl,e,p⟩;have x:Bw b N:=f.grown p f.size (fun h j=>(m.lt h j).1);obtain⟨O,y,rfl,P,T,Q⟩:=iC e (by decide);have A:U8 (gZ c)++U8 [255,g]++U8 (gZ l)=U8 (gZ c++[255,g]++gZ l):=by simp[U8]
 rw[A]at e;have B:gG (gZ c++[255,g]++gZ l):=((kp).append (gG.cons (by decide) (gG.cons ⟨v,w⟩ gG.nil))).append (kp);have q:(gZ c++[255,g]++gZ l).length=4+2+4:=by simp[gZ]
 have t:=EN B y (by rw[q];decide) (sE e);rw[q]at t;clear k o p d m e;go_wp2_with fail;refine t.mono ?_;rintro a X ⟨rfl,rfl⟩;have s:=n' (gZ c++[255,g]++gZ l);have n:Hid (i_ c g l=qW (gZ c++[255,g]++gZ l)%1073741824):=rfl;generalize qW (gZ c++[255,g]++gZ l)=U at s n⊢;obtain⟨R,S⟩:=s;go_wp2_with fail;go_ret;exact⟨by rw[n.out];rfl,x⟩
structure g_ where
 c0:Int
 c1:Int
 c2:Int
 c3:Int
 c4:Int
 c5:Int
 c6:Int
 c7:Int
 c8:Int
 c9:Int
def g_.cells(c:g_):List aM:=[II c.c0,II c.c1,II c.c2,II c.c3,II c.c4,II c.c5,II c.c6,II c.c7,II c.c8,II c.c9]
theorem gp(c:b.ownsRow a z d e f o)(g:Bw b w):w.ownsRow a z d e f o:=
 c.kept (mf g (u2:=none)) (by cases e.ownBlock<;>simp)
theorem fP(a:Bw b w)(c:Bw w z5):Bw b z5:=a.trans (c.mono a.size)
theorem fL(c:b.cell? y3=some e)(d:Bw b w):w.cell? y3=some e:=by
 have:y3.block<b.heap.size:=by
  rcases ay y3.block b.heap.size with a|a
  ·exact a
  ·simp[aD,am a]at c
 rw[d.cell this];exact c
theorem uh{c0 c1 u x E G H I J z9 z8:Int}(a6:0<=J)(a7:J<4294967296)(U:0<=z9)(V:z9<256)(a8:0<=z8)(a9:z8<4294967296):
  aL ab 61 #[.agg (th c0 c1 l u x E G H I J),II z9,II z8] b fun a T=>∃S,a=.returned S/\T.ownsRow b.heap.size 5 1 S 9 (U8 (jg J z9 z8))/\Bw b T:=by
 have v:∀c:aK,c=(b.alloc (.cells (th c0 c1 l u x E G H I J) 26)).alloc (.cells #[.int .u8 z9] 5)->
   c.ownsRow b.heap.size 5 1 (ai (some (xG b)) 1 1) 1 (U8 [z9])/\c.cell? (gf b 9)=some (II J)/\Bw b c:=by
  rintro c rfl;refine⟨?_,?_,(fO _ _).alloc (by simp) _⟩
  ·have:=mw (b.alloc (.cells (th c0 c1 l u x E G H I J) 26)) 5 (U8 [z9]) (by simp[U8,aO]);have a5:(b.alloc (.cells (th c0 c1 l u x E G H I J) 26)).heap.size=b.heap.size+1:=by simp
   rw[a5]at this;exact gq this (by omega)
  ·rw[aj _ _ _ (by simp)];simp
 have t:=fK v;clear v;go_enter func61,ntmps61;go_wp2_with fail;obtain⟨C,A,f⟩:=t.out _ rfl;clear t;refine(qT a8 a9).mono ?_;rintro a c3 ⟨b6,rfl,K,d⟩;have L:=gq K f.size;have D:=gp C d;have B:=fL A d;have m:=fP f d;clear C A d K f;go_wp2_with fail;refine(jO D L (by simp) (by simp[gZ]) (by simp) (by simp[gZ])).mono ?_;rintro a b1 ⟨b0,rfl,M,g⟩;have N:b1.ownsRow b.heap.size 5 1 b0 5 (U8 (kJ z9 z8)):=gq M m.size;have a1:=fL B g;have n:=fP m g;clear D L B M g m;go_wp2_with fail;refine(qT a6 a7).mono ?_;rintro a c4 ⟨b7,rfl,O,h⟩;have P:=gq O n.size;have p:=gp N h;have w:=fP n h;clear O h a1 N n;go_wp2_with fail;refine(jO P p (by simp[gZ]) (by simp[kJ]) (by simp[gZ]) (by simp[kJ,gZ])).mono ?_;rintro a c5 ⟨b8,rfl,e,j⟩;have z:=gp p j;have o:=fP w j;have Z:gG (gZ J++kJ z9 z8):=(kp).append (gG.cons ⟨U,V⟩ (kp));have q:(gZ J++kJ z9 z8).length=9:=by simp[gZ,kJ]
 rw[q]at e;obtain⟨b2,W,rfl,b4,b5,b3⟩:=iC e (by decide);have s:=Eu Z W (by rw[q];decide) (sE e);rw[q]at s;clear P p w j e;go_wp2_with fail;refine s.mono ?_;rintro a c6 ⟨rfl,rfl⟩;have R:=n' (gZ J++kJ z9 z8);go_wp2_with fail;refine(qT R.1 R.2).mono ?_;rintro a c7 ⟨b9,rfl,Q,k⟩;have a2:=gq Q o.size;have a0:=gp z k;have y:=fP o k;clear Q k z o s;go_wp2_with fail;refine(jO a0 a2 (by simp[kJ]) (by simp[gZ]) (by simp[kJ,gZ]) (by simp[gZ])).mono ?_;rintro a c8 ⟨c2,rfl,a3,X⟩;have a4:=gq a3 y.size;have Y:=fP y X;go_wp2_with fail;go_ret;exact⟨_,rfl,a4,Y⟩
theorem ug(c0 c1 s t u v w x y c a d:Int)(W:0<=c)(X:c<4294967296)(P:0<=a)(Q:a<256)(R:0<=d)(S:d<4294967296):
  aL ab 156 #[.agg (th c0 c1 s t u v w x y c),II a,II d] b fun e Z=>e=.returned (II (i_ c a d))/\Bw b Z:=by
 go_enter func156,ntmps156;go_wp2_with fail;have k:=fO b (.cells (th c0 c1 s t u v w x y c) 26);refine(qT W X).mono ?_;rintro e O ⟨Y,rfl,H,z⟩;have I:=gq H k.size;have g:=fP k z;clear z H k;have q:Hid (∀f:aK,f=O.alloc (.cells #[.int .u8 255,.int .u8 a] 5)->f.ownsRow b.heap.size 5 1 (ai (some (gf O 0)) 2 2) 2 (U8 [255,a])/\f.ownsRow b.heap.size 5 1 Y 4 (U8 (gZ c))/\Bw b f):=by rintro f rfl;exact⟨gq (mw _ _ _ (by simp[U8,aO])) g.size,I.alloc _,g.alloc g.size _⟩
 clear I g;go_wp2_with fail;obtain⟨E,G,j⟩:=q.out _ rfl;clear q;refine(jO G E (by simp[gZ]) (by simp) (by simp[gZ]) (by simp)).mono ?_;rintro e b0 ⟨a7,rfl,J,A⟩;have K:=gq J j.size;have m:=fP j A;clear E G j J A;go_wp2_with fail;refine(qT R S).mono ?_;rintro e b1 ⟨a8,rfl,L,l⟩;have M:=gq L m.size;have D:=gp K l;have C:=fP m l;clear L l K m;go_wp2_with fail;refine(jO D M (by simp[gZ]) (by simp[gZ]) (by simp[gZ]) (by simp[gZ])).mono ?_;rintro e b2 ⟨a9,rfl,h,B⟩;have U:=fP C B;have V:gG (gZ c++[255,a]++gZ d):=((kp).append (gG.cons (by decide) (gG.cons ⟨P,Q⟩ gG.nil))).append (kp);have n:(gZ c++[255,a]++gZ d).length=10:=by simp[gZ]
 rw[n]at h;obtain⟨a0,T,rfl,a2,a5,a1⟩:=iC h (by decide);have o:=Eu V T (by rw[n];decide) (sE h);rw[n]at o;clear M D C B h;go_wp2_with fail;refine o.mono ?_;rintro e b3 ⟨rfl,rfl⟩;have N:=n' (gZ c++[255,a]++gZ d);have p:Hid (i_ c a d=qW (gZ c++[255,a]++gZ d)%1073741824):=rfl;generalize qW (gZ c++[255,a]++gZ d)=a6 at N p⊢;obtain⟨a3,a4⟩:=N;clear o;go_wp2_with fail;go_ret;exact⟨by rw[p.out];rfl,U⟩
def Env(w:aK):Prop:=Lib.TabIs ab w "internal/strconv.uint64pow10" .u64 Lib.pow10Tab/\w.cell? (Ad 0 0)=some (E_)
theorem O9:ab.globalNamed "internal/strconv.uint64pow10" = some 1:=by kernel_rfl
theorem Env.below(h:Env w)(c:Bw w b):Env b:=by
 refine⟨?_,fL h.2 c⟩;have a:=h.1;unfold Lib.TabIs World.var? at *
 rw[O9]at a⊢;simp only[Option.bind_some]at a⊢;have d:1<w.heap.size:=by grind
 rw[c.block 1 d];exact a
theorem Fh{c:Array Obj}:Bw b (aI (b.drewN a) c):=by
 refine⟨?_,?_,?_,?_,?_⟩
 ·rfl
 ·simp[aI]
 ·rfl
 ·simp[aI]
 ·intro i hi;simp[aI,Array.getElem?_append,hi]
theorem uP(g:0<=c)(h:c<=9223372036854775807)(f:Env b):aL ab 137 #[II c] b fun a e=>∃d:ByteArray,a=.returned (.string d)/\d.size<=21/\Bw b e:=by refine(Tryz.strconv_Itoa c (by omega) (by omega) b f.1).mono ?_;rintro a e ⟨rfl,j,k,rfl⟩;refine⟨_,rfl,?_,Fh⟩;have:=Lib.itoa_length_le c (by omega) (by omega);show(Lib.itoa c).toArray.size<=21;simpa using this
def jI(l:List Int):Nat->Int
 |0=>0
 |1=>l.getD 0 0%64
 |k+2=>jI l (k+1)*256+l.getD (k+1) 0
def jk(l:List Int):Int:=if l.length=0 then 0 else if(l.length:Int)<kt (l.getD 0 0) then 0 else kt (l.getD 0 0)
def jL(l:List Int):Int:=if jk l=0 then 0 else jI l (jk l).toNat
def nE(l:List Int):Int:=if jk l=0 then 2 else 0
theorem iY(c:gG k)(a:Nat):0<=k.getD a 0/\k.getD a 0<256:=by
 rcases ay a k.length with b|b
 ·exact c _ (by grind)
 grind
theorem wR(a:gG k):(0<=jI k 1/\jI k 1<64)/\(0<=jI k 2/\jI k 2<16384)/\(0<=jI k 3/\jI k 3<4194304)/\(0<=jI k 4/\jI k 4<1073741824):=by have f:=iY a 0;have g:=iY a 1;have h:=iY a 2;have j:=iY a 3;have b:jI k 1=k.getD 0 0%64:=rfl;have c:jI k 2=jI k 1*256+k.getD 1 0:=rfl;have d:jI k 3=jI k 2*256+k.getD 2 0:=rfl;have e:jI k 4=jI k 3*256+k.getD 3 0:=rfl;omega
theorem yX(d:gG k)(b:1<=a)(c:a<4):0<=jI k a/\jI k a<4194304:=by
 obtain⟨e,f,g,_⟩:=wR d;match a,b,c with
 |1,_,_=>omega
 |2,_,_=>omega
 |3,_,_=>omega
theorem Au(e:0<k.length)(a:k.getD 0 0=c)(d:kt c=g)(b:(k.length:Int)<g):jk k=0:=by unfold jk;rw[if_neg (by omega),a,d,if_pos b]
theorem BN(d:0<k.length)(a:k.getD 0 0=c)(b:kt c=g)(e:g<=(k.length:Int)):jk k=g:=by unfold jk;rw[if_neg (by omega),a,b,if_neg (by omega)]
theorem MY(a:c<64):kt c=1:=by simp[kt,a]
theorem Ht(b:64<=c)(a:c<128):kt c=2:=by simp[kt,a];omega
theorem Hu(a:128<=c)(b:c<192):kt c=4:=by unfold kt;omega
theorem MX(a:192<=c):kt c=0:=by unfold kt;omega
theorem qa(a:jk k=0):jL k=0/\nE k=2:=by simp[jL,nE,a]
theorem BM(b:jk k=a)(c:0<a):jL k=jI k a/\nE k=0:=by
 have:¬jk k=0:=by omega
 constructor
 ·unfold jL;rw[if_neg this,b,aA]
 ·simp[nE,this]
theorem Lr:aL ab 113 #[.slice R 0 cap] b fun a c=>a=.returned (.tuple #[II 0,II 0,II 2])/\b=c:=by go_enter func113,ntmps113;go_wp2;go_ret3;exact⟨rfl,rfl⟩
theorem Lq(p:gG k)(n:0<k.length)(V:k.length<=140737488355328)(v:∀j,j<k.length->CV b a (d+j) (.int .u8 (k.getD j 0))):
  aL ab 113 #[ai (some (Ad a d)) k.length cap] b fun G P=>G=.returned (.tuple #[II (jL k),II (jk k),II (nE k)])/\b=P:=by
 have A:=fK v;have D:=v 0 n;clear v;obtain⟨l,w⟩:∃l,k.getD 0 0=l:=⟨_,rfl⟩;have E:=iY p 0;rw[w]at D E;rw[aF]at D;obtain⟨R,T⟩:=E;have h:=fK w;clear w;have U:((k.length:Int)==0)=false:=beq_eq_false_iff_ne.2 (by omega);by_cases I:192<=l
 ·have e:jk k=0:=by
   by_cases W:(k.length:Int)<0
   ·omega
   ·exact BN n h.out (MX I) (by omega)
  obtain⟨f,g⟩:=qa e;rw[f,g,e];clear f g e;go_enter func113,ntmps113;go_wp2;go_ret3;exact⟨rfl,rfl⟩
 by_cases H:l<64
 ·have e:=BN (g:=1) n h.out (MY H) (by omega);obtain⟨f,g⟩:=BM (a:=1) e (by decide);have B:jI k 1=l%64:=by show k.getD 0 0%64=_;rw[h.out]
  rw[f,g,e,B];clear f g e B;go_enter func113,ntmps113;go_wp2;refine aS 1 ?_;rw[aR];go_wp2;go_ret3;exact⟨rfl,rfl⟩
 by_cases C:l<128
 ·by_cases z:(k.length:Int)<2
  ·have e:=Au (g:=2) n h.out (Ht (by omega) C) z;obtain⟨f,g⟩:=qa e;rw[f,g,e];clear f g e;go_enter func113,ntmps113;go_wp2;go_ret3;exact⟨rfl,rfl⟩
  ·have e:=BN (g:=2) n h.out (Ht (by omega) C) (by omega);obtain⟨f,g⟩:=BM (a:=2) e (by decide);rw[f,g,e];have s:jI k 1=l%64:=by show k.getD 0 0%64=_;rw[h.out]
   have u:=fK s;clear f g e s;go_enter func113,ntmps113;go_wp2;go_loop [6,7] (fun t i=>∃c:Nat,1<=c/\c<=2/\i=II c/\t=II (jI k c)) (fun _ i=>2-(aQ i).toNat);case atStart=>exact⟨1,by decide,by decide,rfl,by rw[u.out]⟩
   case round=>
    obtain⟨c,y,L,rfl,rfl⟩:=hrel;by_cases M:c<2
    ·have x:=A.out c (by omega);have q:=yX p y (by omega);have o:=iY p c;have m:Hid (jI k (c+1)=jI k c*256+k.getD c 0):=by obtain⟨j,rfl⟩:∃j,c=j+1:=⟨c-1,by omega⟩;rfl
     generalize jI k c=t at q m⊢;generalize k.getD c 0=Q at x o m;obtain⟨N,O⟩:=q;obtain⟨J,K⟩:=o;go_wp2;go_round;case rel=>exact⟨c+1,by omega,by omega,by go_num,by rw[m.out];go_num⟩
     case measure=>simp[aQ];omega
    ·obtain rfl:c=2:=by omega
     go_wp2;go_ret3;exact⟨rfl,rfl⟩
 ·by_cases z:(k.length:Int)<4
  ·have e:=Au (g:=4) n h.out (Hu (by omega) (by omega)) z;obtain⟨f,g⟩:=qa e;rw[f,g,e];clear f g e;go_enter func113,ntmps113;go_wp2;go_ret3;exact⟨rfl,rfl⟩
  ·have e:=BN (g:=4) n h.out (Hu (by omega) (by omega)) (by omega);obtain⟨f,g⟩:=BM (a:=4) e (by decide);rw[f,g,e];have s:jI k 1=l%64:=by show k.getD 0 0%64=_;rw[h.out]
   have u:=fK s;clear f g e s;go_enter func113,ntmps113;go_wp2;go_loop [6,7] (fun t i=>∃c:Nat,1<=c/\c<=4/\i=II c/\t=II (jI k c)) (fun _ i=>4-(aQ i).toNat);case atStart=>exact⟨1,by decide,by decide,rfl,by rw[u.out]⟩
   case round=>
    obtain⟨c,y,L,rfl,rfl⟩:=hrel;by_cases M:c<4
    ·have x:=A.out c (by omega);have q:=yX p y (by omega);have o:=iY p c;have m:Hid (jI k (c+1)=jI k c*256+k.getD c 0):=by obtain⟨j,rfl⟩:∃j,c=j+1:=⟨c-1,by omega⟩;rfl
     generalize jI k c=t at q m⊢;generalize k.getD c 0=Q at x o m;obtain⟨N,O⟩:=q;obtain⟨J,K⟩:=o;go_wp2;go_round;case rel=>exact⟨c+1,by omega,by omega,by go_num,by rw[m.out];go_num⟩
     case measure=>simp[aQ];omega
    ·obtain rfl:c=4:=by omega
     go_wp2;go_ret3;exact⟨rfl,rfl⟩
theorem Nm:aL ab 87 #[.nilIface,e] b fun a c=>a=.returned (.bool false)/\b=c:=by go_enter func87,ntmps87;go_wp2;go_ret;exact⟨rfl,rfl⟩
theorem uf(b:Addr)(a:aK):(ReflectliteValue.unpack (.iface 160 (ag (some b)))).run ab a
  = .ok (.agg #[ag (some (Ad 4 160)),Pt a.heap.size,.int .u64 150]) (a.alloc (.cells #[ag (some b)] 160)):=by kernel_rfl
theorem Cn(b:Addr)(a:aK):(ReflectliteValue.methodAny (ReflectliteValue.valueError "reflectlite.Value.Type" 0) (fun c _ _ _=>ReflectliteType.toType c) #[.agg (Mk b)]).run ab a
  = .ok (.iface 263 (.agg #[ag (some (Ad 4 160))])) a:=by kernel_rfl
theorem qk(a:aM)(b:aK):(aC 469 263 (.agg #[a]) "Kind").run ab b=.ok (261,a) b:=by kernel_rfl
theorem v_(a:aK):((ReflectliteType.abiMethod fun c=>Functor.map (fun b:Nat=>Value.int IntKind.u8 (b:Int)) (Rtype.kind c)) #[ag (some (Ad 4 160))]).run ab a=.ok (.int .u8 22) a:=by kernel_rfl
theorem yE(a:aK):((ReflectliteType.abiMethod fun c=>Functor.map (fun b:Nat=>Value.int IntKind.u8 (b:Int)) (Rtype.kind c)) Fb).run ab a=.ok (.int .u8 22) a:=by kernel_rfl
theorem yF(a:Addr)(b:aK):(ReflectliteValue.parts (.agg (Mk a))).run ab b=.ok (some (160,a,150)) b:=by kernel_rfl
theorem yD(b d:Addr)(a:aK)(c:a.cell? b=some (ag (some d))):
  (ReflectliteValue.method (ReflectliteValue.valueError "reflectlite.Value.IsNil" 0) ReflectliteValue.isNil #[.agg (Mk b)]).run ab a=.ok (.bool false) a:=by
 rw[Lib.rl_method];simp only[aG,yF,au];simp[ReflectliteValue.isNil,loadVar,isAgg,underlying,underlying160,c,au]
theorem qj(a:aM)(b:aK):(aC 469 263 (.agg #[a]) "Elem").run ab b=.ok (274,.agg #[a]) b:=by kernel_rfl
theorem mJ(a:aM)(b:aK):(aC 469 263 (.agg #[a]) "Implements").run ab b=.ok (275,.agg #[a]) b:=by kernel_rfl
theorem lX(a:aM)(b:aK):(aC 469 263 (.agg #[a]) "AssignableTo").run ab b=.ok (272,.agg #[a]) b:=by kernel_rfl
theorem vZ(a:aK):(ReflectliteType.method ReflectliteType.elem #[.agg #[ag (some (Ad 4 160))]]).run ab a=.ok (.iface 263 (.agg Fb)) a:=by kernel_rfl
theorem qi(a:aK):(ReflectliteType.relation "Implements" ReflectliteType.implements_ #[.agg Fb,.iface 263 (.agg #[ag (some (Ad 4 109))])]).run ab a=.ok (.bool true) a:=by kernel_rfl
theorem ud(b:aM)(a:aK):(ReflectliteType.typeOf #[.iface 158 b]).run ab a=.ok (.iface 263 (.agg Fb)) a:=by kernel_rfl
theorem ue(b:aM)(a:aK):(ReflectliteType.typeOf #[.iface 155 b]).run ab a=.ok (.iface 263 (.agg #[ag (some (Ad 4 155))])) a:=by kernel_rfl
theorem pt(a:aK):(ReflectliteType.relation "AssignableTo" ReflectliteType.assignableTo #[.agg Fb,.iface 263 (.agg Fb)]).run ab a=.ok (.bool true) a:=by kernel_rfl
theorem pu(a:aK):(ReflectliteType.relation "AssignableTo" ReflectliteType.assignableTo #[.agg #[ag (some (Ad 4 155))],.iface 263 (.agg Fb)]).run ab a=.ok (.bool false) a:=by kernel_rfl
theorem sI(b:Addr)(a:aK):(ReflectliteValue.unpack (Fc b)).run ab a
  = .ok (.agg #[ag (some (Ad 4 158)),Pt a.heap.size,.int .u64 150]) (a.alloc (.cells #[ag (some b)] 158)):=by kernel_rfl
theorem JA(a:aK):(Rtype.elem? 160).run ab a=.ok (some 158) a:=by kernel_rfl
theorem PR(a:Addr)(b:aK):(ReflectliteValue.mk 158 a ReflectliteValue.flagAddr).run ab b=.ok (.agg (Ml a)) b:=by kernel_rfl
theorem yC(b c:Addr)(a:aK)(d:a.cell? b=some (ag (some c))):
  (ReflectliteValue.method (ReflectliteValue.valueError "reflectlite.Value.Elem" 0) ReflectliteValue.elem #[.agg (Mk b)]).run ab a
   = .ok (.agg (Ml c)) a:=by
 rw[Lib.rl_method];simp only[aG,yF,au];simp[ReflectliteValue.elem,loadVar,isAgg,underlying,underlying160,d,au,JA,PR]
theorem JB:(ReflectliteValue.parts (.agg (Ml y3))).run ab b=.ok (some (158,y3,406)) b:=by kernel_rfl
theorem LG:(ReflectliteValue.parts (.agg #[ag (some (Ad 4 158)),ag (some y3),.int .u64 150])).run ab b=.ok (some (158,y3,150)) b:=by kernel_rfl
theorem Jz(a:aK):(Rtype.directlyAssignable 158 158).run ab a=.ok true a:=by kernel_rfl
theorem Cr{a:Addr}{pT:aM}(g:(ReflectliteValue.parts e).run ab b=.ok (some (158,y3,406)) b)(j:(ReflectliteValue.parts h).run ab b=.ok (some (158,u1,150)) b)
  (c:b.cell? u1=some (ag (some a))) (f:b.cell? y3=some pT) (d:b.frozen? y3=false):(ReflectliteValue.set #[e,h]).run ab b=.ok (.tuple #[]) (b.setCell y3 (ag (some a))):=by
 change Sem.run ab (Bind.bind (m:=Sem) (ReflectliteValue.parts e) fun k=>Bind.bind (m:=Sem) (ReflectliteValue.parts h) ((?F:Option (TypeId×Addr×Nat)->Option (TypeId×Addr×Nat)->Sem aM) k)) b=_;simp only[aG,g,j,au];simp[ReflectliteValue.flagAddr,loadVar,isAgg,underlying,underlying158,c,au,Jz,storeVar,Value.cells,storeCells,Addr.add];rw[run_store ab b y3 _ _ (by rfl)];simp[f,d]
theorem GD(b c:Addr)(pT:aM)(a:aK)(d:a.cell? b=some (ag (some c)))(f:a.cell? y3=some pT)(e:a.frozen? y3=false):
  (ReflectliteValue.set #[.agg (Ml y3),.agg #[ag (some (Ad 4 158)),ag (some b),.int .u64 150]]).run ab a
   = .ok (.tuple #[]) (a.setCell y3 (ag (some c))):=Cr (JB) (LG) d f e
theorem sQ(b:aM)(c:TypeId)(a:aK):(Instr.typeAssert (.iface 155 b) c 268 true).run ab a=.ok (.tuple #[.nilIface,.bool false]) a:=run_typeAssert_lacksB underlying268 (by kernel_rfl) (by kernel_rfl) b c a
theorem oc(a:aM)(c:TypeId)(b:aK):(Instr.typeAssert (.iface 155 a) c 271 true).run ab b=.ok (.tuple #[.iface 155 a,.bool true]) b:=run_typeAssert_hasB underlying271 (by kernel_rfl) a c b
theorem qo(a:Option Addr)(b:aK):(aC 469 155 (.pointer a) "Unwrap").run ab b=.ok (265,.pointer a) b:=by kernel_rfl
set_option maxRecDepth 20000 in
theorem Aa(f:CV b 0 0 (E_))(e:CV b a 1 (Fc y3))(g:b.cell? u1=some (ag none))(l:b.frozen? u1=false):
  aL ab 87 #[.iface 155 (Pt a),.iface 160 (ag (some u1))] b fun j o=>j=.returned (.bool true)/\Below u1.block b o:=by
 have D:=@run_callFunc_extern ab 138 _ (fun h=>ReflectliteValue.unpack (h.getD 0 (.tuple #[]))) func138 (by kernel_rfl) (by kernel_rfl) (by kernel_rfl) (by kernel_rfl);have E:=@run_callFunc_extern ab 139 _ (ReflectliteValue.methodAny (ReflectliteValue.valueError "reflectlite.Value.Type" 0) (fun u1 _ _ _=>ReflectliteType.toType u1)) func139 (by kernel_rfl) (by kernel_rfl) (by kernel_rfl) (by kernel_rfl);have G:=@run_callFunc_extern ab 140 _ (ReflectliteValue.method (ReflectliteValue.valueError "reflectlite.Value.IsNil" 0) ReflectliteValue.isNil) func140 (by kernel_rfl) (by kernel_rfl) (by kernel_rfl) (by kernel_rfl);have z:=@run_callFunc_extern ab 261 _ (ReflectliteType.abiMethod fun u1=>do pure (.int .u8 (<-Rtype.kind u1))) func261 (by kernel_rfl) (by kernel_rfl) (by kernel_rfl) (by kernel_rfl);have B:=@run_callFunc_extern ab 274 _ (ReflectliteType.method ReflectliteType.elem) func274 (by kernel_rfl) (by kernel_rfl) (by kernel_rfl) (by kernel_rfl);have C:=@run_callFunc_extern ab 275 _ (ReflectliteType.relation "Implements" ReflectliteType.implements_) func275 (by kernel_rfl) (by kernel_rfl) (by kernel_rfl) (by kernel_rfl);have w:=@run_callFunc_extern ab 170 _ ReflectliteType.typeOf func170 (by kernel_rfl) (by kernel_rfl) (by kernel_rfl) (by kernel_rfl);have A:=@run_callFunc_extern ab 272 _ (ReflectliteType.relation "AssignableTo" ReflectliteType.assignableTo) func272 (by kernel_rfl) (by kernel_rfl) (by kernel_rfl) (by kernel_rfl);have x:=@run_callFunc_extern ab 171 _ (ReflectliteValue.method (ReflectliteValue.valueError "reflectlite.Value.Elem" 0) ReflectliteValue.elem) func171 (by kernel_rfl) (by kernel_rfl) (by kernel_rfl) (by kernel_rfl);have y:=@run_callFunc_extern ab 172 _ ReflectliteValue.set func172 (by kernel_rfl) (by kernel_rfl) (by kernel_rfl) (by kernel_rfl);have T:=sQ;have R:=qo;have H:=oc;have V:=ud;have W:=ue;have N:=lX;have p:=pt;have q:=pu;have X:=sI;have u:=uf;have v:=Cn;have Q:=qk;have O:=qj;have P:=mJ;have M:=v_;have L:=yE;have s:=vZ;have K:=qi;have S:=yD (gf b 0) u1 (HW b u1) (by simp);have n:0<b.heap.size:=by
  rcases ay 0 b.heap.size with c|c
  ·exact c
  ·simp[aD,am c]at f
 have J:(HW b u1).cell? (Ad 0 0)=some (E_):=by rw[aj _ _ (Ad 0 0) (by simp only[az];omega),aj _ _ (Ad 0 0) n];exact f
 have d:u1.block<b.heap.size:=by
  rcases ay u1.block b.heap.size with c|c
  ·exact c
  ·simp[aD,am c]at g
 have m:a<b.heap.size:=by
  rcases ay a b.heap.size with c|c
  ·exact c
  ·simp[aD,am c]at e
 have I:(J4 b u1).cell? (Ad a 1)=some (Fc y3):=by rw[aj _ _ (Ad a 1) (by simp;omega),aj _ _ (Ad a 1) (by simp;omega),aj _ _ (Ad a 1) m];exact e
 have t:=yC (gf b 0) u1 (J4 b u1) (by rw[aj _ _ (gf b 0) (by simp;omega)];simp);have U:=GD (Ad (b.heap.size+1+1+1) 0) y3 (ag none) ((J4 b u1).alloc (.cells #[ag (some y3)] 158))
  (by rw[World.cell?_alloc_at _ _ _ _ (by simp)];rfl)
  (by rw[aj _ _ u1 (by simp;omega),aj _ _ u1 (by simp;omega),aj _ _ u1 (by simp;omega),aj _ _ u1 d];exact g)
  (by rw[al _ _ u1 (by simp;omega),al _ _ u1 (by simp;omega),al _ _ u1 (by simp;omega),al _ _ u1 (Nat.ne_of_lt d)];exact l)
 go_enter func87,ntmps87;go_wp2;refine aS 2 ?_;rw[aR];go_wp2;rw[aR];go_wp2;go_ret;refine⟨rfl,?_⟩;have k:u1.block<=b.heap.size:=Nat.le_of_lt d;exact((((((Below.refl u1.block b).alloc k _).alloc (by simp only[az];omega) _).alloc (by simp only[az];omega) _).alloc (by simp only[az];omega) _)).setCell (ar _) _
theorem yT(l:0<=c)(m:c<=9223372036854775807)(n:0<=g)(o:g<=9223372036854775807)(j:Env b):aL ab 136 #[II c,II g] b fun a p=>∃k,a=.returned (Pt k)/\Bw b p:=by have e:=fK j;clear j;go_enter func136,ntmps136;go_wp2_with fail;refine(uP l m e.out).mono ?_;rintro a v ⟨t,rfl,q,d⟩;go_wp2_with fail;refine(uP n o (e.out.below d)).mono ?_;rintro a w ⟨u,rfl,s,f⟩;have h:=fP d f;clear d f;go_wp2_with fail;go_ret;exact⟨_,rfl,h.alloc h.size _⟩
theorem sD:aL ab 154 #[.slice R 0 cap] b fun a d=>∃c,a=.returned (.tuple #[II 0,.iface 158 (Pt c)])/\Bw b d:=by go_enter func154,ntmps154;go_wp2;go_ret2;exact⟨_,rfl,fO _ _⟩
theorem xa(p:0<k.length)(o:k.length<=140737488355328)(m:CV b a d (.int .u8 (k.getD 0 0)))(c:¬jk k=0):
  aL ab 154 #[ai (some (Ad a d)) k.length cap] b fun g h=>g=.returned (.tuple #[II (jk k),.nilIface])/\b=h:=by
 have n:((k.length:Int)==0)=false:=beq_eq_false_iff_ne.2 (by omega);have e:jk k=kt (k.getD 0 0)/\¬(k.length:Int)<kt (k.getD 0 0):=by
  unfold jk at c⊢;rw[if_neg (by omega)]at c⊢;by_cases f:(k.length:Int)<kt (k.getD 0 0)
  ·rw[if_pos f]at c;exact absurd rfl c
  ·rw[if_neg f];exact⟨rfl,f⟩
 obtain⟨e,l⟩:=e;rw[e]at c⊢;clear e;generalize k.getD 0 0=j at m c l⊢;have q:(kt j==0)=false:=beq_eq_false_iff_ne.2 c;go_enter func154,ntmps154;go_wp2_with (go_at_call 183;refine(oH).mono ?_;rintro g h ⟨rfl,rfl⟩);go_ret2;exact⟨rfl,rfl⟩
theorem rO(t:gG k)(B:0<k.length)(p:Env b)(A:k.length<=140737488355328)(q:CV b a d (.int .u8 (k.getD 0 0)))(e:jk k=0):
  aL ab 154 #[ai (some (Ad a d)) k.length cap] b fun f l=>∃j,f=.returned (.tuple #[II 0,.iface 158 (Pt j)])/\Bw b l:=by
 have y:((k.length:Int)==0)=false:=beq_eq_false_iff_ne.2 (by omega);have o:=iY t 0;unfold jk at e;rw[if_neg (by omega)]at e;generalize k.getD 0 0=c at q e o;obtain⟨s,x⟩:=o;have m:=fK p;clear p;by_cases g:kt c=0
 ·have v:(kt c==0)=true:=by simp[g]
  clear e g;go_enter func154,ntmps154;go_wp2_with (first |(go_at_call 183;refine(oH).mono ?_;rintro f l ⟨rfl,rfl⟩));refine(uP s (by omega) m.out).mono ?_;rintro f w ⟨E,rfl,C,h⟩;go_wp2_with fail;go_ret2;exact⟨_,rfl,h.alloc h.size _⟩
 ·have v:(kt c==0)=false:=beq_eq_false_iff_ne.2 g;have D:(k.length:Int)<kt c:=by
   by_cases n:(k.length:Int)<kt c
   ·exact n
   ·rw[if_neg n]at e;exact absurd e g
  have z:kt c<=4:=by
   unfold kt
   repeat' split
   all_goals omega
  clear e g;have u:0<=kt c:=by omega
  go_enter func154,ntmps154;go_wp2_with (first |(go_at_call 183;refine(oH).mono ?_;rintro f l ⟨rfl,rfl⟩));refine(yT (by omega) (by omega) u (by omega) m.out).mono ?_;rintro f w ⟨j,rfl,h⟩;go_wp2_with fail;go_ret2;exact⟨j,rfl,h⟩
theorem Ki:aL ab 102 #[.slice R 0 cap] b fun c f=>∃a d,c=.returned (.tuple #[II 0,II 0,.iface 155 (Pt d)])/\f.cell? (Ad d 1)=some (.iface 158 (Pt a))/\Bw b f:=by go_enter func102,ntmps102;go_wp2_with fail;refine(sD).mono ?_;rintro c g ⟨a,rfl,e⟩;go_wp2_with fail;go_ret3;exact⟨a,g.heap.size,rfl,by simp,e.alloc e.size _⟩
theorem HN(n:gG k)(p:0<k.length)(j:Env b)(o:k.length<=140737488355328)(h:CV b a d (.int .u8 (k.getD 0 0)))(l:jk k=0):
  aL ab 102 #[ai (some (Ad a d)) k.length cap] b fun e m=>∃c f,e=.returned (.tuple #[II 0,II 0,.iface 155 (Pt f)])/\m.cell? (Ad f 1)=some (.iface 158 (Pt c))/\Bw b m:=by
 go_enter func102,ntmps102;go_wp2_with fail;refine(rO n p j o h l).mono ?_;rintro e q ⟨c,rfl,g⟩;clear h j l;go_wp2_with fail;go_ret3;exact⟨c,q.heap.size,rfl,by simp,g.alloc g.size _⟩
theorem Af(q:gG k)(x:0<k.length)(R:k.length<=cap)(K:k.length<=140737488355328)(p:∀s,s<k.length->CV b a (d+s) (.int .u8 (k.getD s 0)))(f:¬jk k=0):
  aL ab 102 #[ai (some (Ad a d)) k.length cap] b fun l M=>l=.returned (.tuple #[II (jL k),II (jk k),.nilIface])/\b=M:=by
 have A:=fK p;have m:=p 0 x;rw[aF]at m;clear p;obtain⟨e,n,D,P⟩:∃e:Nat,jk k=e/\(1<=e/\e<=4)/\e<=k.length:=by
  unfold jk at f⊢;rw[if_neg (by omega)]at f⊢;by_cases u:(k.length:Int)<kt (k.getD 0 0)
  ·rw[if_pos u]at f;exact absurd rfl f
  ·rw[if_neg u]at f⊢;have o:0<=kt (k.getD 0 0)/\kt (k.getD 0 0)<=4:=by
    unfold kt
    repeat' split
    all_goals omega
   exact⟨(kt (k.getD 0 0)).toNat,by omega,by omega,by omega⟩
 have g:=xa x (cap:=cap) K m f;have w:=iY q 0;have j:Hid (jI k 1=k.getD 0 0%64):=rfl;generalize k.getD 0 0=B at m w j;obtain⟨H,I⟩:=w;have Q:=u8_and63 B H I;have t:Hid (jL k=jI k e):=(BM n (by omega)).1;rw[n]at g⊢;clear n f;obtain⟨C,O⟩:=D;by_cases J:cap=1
 ·subst J;obtain rfl:e=1:=by omega
  go_enter func102,ntmps102;go_wp2_with fail;refine g.mono ?_;rintro l N ⟨rfl,rfl⟩;clear g;go_wp2_with fail;refine aS 1 ?_;rw[aR];go_wp2;go_ret3;exact⟨by rw[t.out,j.out];rfl,rfl⟩
 ·go_enter func102,ntmps102;go_wp2_with fail;refine g.mono ?_;rintro l N ⟨rfl,rfl⟩;clear g;go_wp2_with fail;go_loop [2,27] (fun z i=>∃c:Nat,c+1<=e/\i=II c/\z=II (jI k (c+1))) (fun _ i=>e-(aQ i).toNat);case atStart=>exact⟨0,C,rfl,by rw[j.out]⟩
  case round=>
   obtain⟨c,S,rfl,rfl⟩:=hrel;by_cases T:c+1<e
   ·have v:=A.out (c+1) (by omega);rw[show d+(c+1)=d+1+c from by omega]at v;have y:=yX q (a:=c+1) (by omega) (by omega);have o:=iY q (c+1);have h:Hid (jI k (c+1+1)=jI k (c+1)*256+k.getD (c+1) 0):=rfl;generalize jI k (c+1)=z at y h⊢;generalize k.getD (c+1) 0=W at v o h;obtain⟨L,V⟩:=y;obtain⟨E,G⟩:=o;have U:=Tg L (by omega) E G;go_wp2;go_round;case rel=>exact⟨c+1,by omega,by go_num,by rw[h.out]⟩
    case measure=>simp[aQ];omega
   ·obtain rfl:e=c+1:=by omega
    go_wp2;go_ret3;exact⟨by rw[t.out];rfl,rfl⟩
def je(w:aK)(v:aM)(l:List Int):Prop:=
 gG l/\l.length<=140737488355328/\((l=[]/\∃ao cap,v=.slice ao 0 cap)\/(0<l.length/\∃b off cap,v=ai (some (Ad b off)) l.length cap/\l.length<=cap/\∀j,j<l.length->w.cell? (Ad b (off+j))=some (.int .u8 (l.getD j 0))))
theorem jB(j:je b e k):
  aL ab 113 #[e] b fun c l=>c=.returned (.tuple #[II (jL k),II (jk k),II (nE k)])/\b=l:=by
 obtain⟨f,g,a|a⟩:=j
 ·obtain⟨rfl,m,cap,rfl⟩:=a;exact Lr
 ·obtain⟨h,n,o,cap,rfl,_,d⟩:=a;exact Lq f h g d
theorem zi(j:Env b)(h:CV b a 1 (.iface 158 (Pt d))):
  aL ab 46 #[.iface 155 (Pt a)] b fun f l=>f=.returned (.bool true)/\Bw b l:=by
 have c:Bw b (b.alloc (.cells #[ag none] 158)):=fO _ _;have e:=fK (Aa (u1:=gf b 0) (fL j.2 c) (fL h c) (by simp) (by simp));clear h j;go_enter func46,ntmps46;go_wp2_with fail;refine e.out.mono ?_;rintro f m ⟨rfl,g⟩;have k:Bw b m:=c.trans g;clear c g e;go_wp2_with fail;go_ret;exact⟨rfl,k⟩
theorem q_:aL ab 46 #[.nilIface] b fun a c=>a=.returned (.bool false)/\Bw b c:=by go_enter func46,ntmps46;go_wp2_with fail;refine(Nm).mono ?_;rintro a d ⟨rfl,rfl⟩;go_wp2_with fail;go_ret;exact⟨rfl,fO _ _⟩
theorem G_(m:Env b)
  (n:aL ab 102 #[e] b fun a c=>∃j d,a=.returned (.tuple #[II 0,II 0,.iface 155 (Pt d)])/\CV c d 1 (.iface 158 (Pt j))/\Bw b c):
  aL ab 56 #[e] b fun a c=>a=.returned (.tuple #[II 0,II 0,II 2])/\Bw b c:=by
 have h:=fK n;have o:=fK m;clear n m;go_enter func56,ntmps56;go_wp2_with fail;refine h.out.mono ?_;rintro a s ⟨j,d,rfl,l,f⟩;clear h;have g:=fK (zi (o.out.below f) l);clear l;go_wp2_with fail;refine g.out.mono ?_;rintro a q ⟨rfl,k⟩;have p:Bw b q:=fP f k;clear f k g;go_wp2_with fail;go_ret3;exact⟨rfl,p⟩
theorem Np
  (f:aL ab 102 #[e] b fun a c=>a=.returned (.tuple #[II (jL k),II (jk k),.nilIface])/\b=c):
  aL ab 56 #[e] b fun a c=>a=.returned (.tuple #[II (jL k),II (jk k),II 0])/\Bw b c:=by
 have d:=fK f;clear f;go_enter func56,ntmps56;go_wp2_with fail;refine d.out.mono ?_;rintro a h ⟨rfl,rfl⟩;clear d;go_wp2_with fail;refine(q_).mono ?_;rintro a j ⟨rfl,g⟩;go_wp2_with fail;go_ret3;exact⟨rfl,g⟩
theorem tr(f:Env b)(q:je b e k):
  aL ab 56 #[e] b fun n s=>n=.returned (.tuple #[II (jL k),II (jk k),II (nE k)])/\Bw b s:=by
 obtain⟨l,m,d|d⟩:=q
 ·obtain⟨rfl,t,cap,rfl⟩:=d;exact G_ f (Ki)
 ·obtain⟨g,u,v,cap,rfl,p,j⟩:=d;have h:=j 0 g;rw[aF]at h;by_cases a:jk k=0
  ·obtain⟨o,c⟩:=qa a;rw[o,c,a];exact G_ f (HN l g f m h a)
  ·have c:nE k=0:=by simp[nE,a]
   rw[c];exact Np (Af l g p m j a)
end Go.Proofs.YthmdjhlhodpbhaaGreatDoor
