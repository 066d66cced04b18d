/- Comes: for every script whose reading is of a bulk of at most 1048576 the law Comes answers true, and the script reads as it did; on condition that the listed package variables hold what the program lays in them: the row, and the card that ties these to the text. The texts are packed by a program: names, blanks and remarks are shortened, since the plain ones are more than a claim may hold. -/
import Derived.Deep.DeepHandedRow
import Derived.Lib.LaidTab
import Derived.LaidHandle
import Derived.LaidLaws
import Derived.Stop.LaidErr
import Derived.Test.YthmdjhlhodpbhaaGreatDoorCards
import Derived.Test.YthmdjhlhodpbhaaGreatDoorM17
import Derived.Test.YthmdjhlhodpbhaaGreatDoorM18
import Derived.Test.YthmdjhlhodpbhaaGreatDoorTie
set_option maxHeartbeats 16000000
set_option maxRecDepth 8000
namespace Go.Proofs.YthmdjhlhodpbhaaGreatDoor
open Go.RowKit Go.ChangeAt Go.ChangeShapes Go.Deep Go.WideShapes
open _root_.Array renaming getElem?_eq_some_iff → aO
open _root_.List renaming getElem?_eq_getElem → am, getElem?_cons_zero → cz, mem_of_getElem? → bT, length_cons → cK, getElem?_append_right → aF, getElem?_eq_some_iff → bm, length_append → aT, getElem?_cons_succ → cB, range → dh, not_mem_nil → dy, length_nil → eG, drop → aR, mem_range → eH, mem_cons → cI, mem_map → cZ
open _root_.Nat renaming le_refl → ay, lt_of_lt_of_le → cq, le_trans → cw, le_of_lt → dS
open Go.World renaming cell?_of_block → cF, ownsRow_nil → aq, cell? → aX
open _root_.Or renaming inr → aV, inl → a_
open Go.DataW renaming trod → aK
open _root_.Int renaming emod_nonneg → eF
open Go.Value renaming slice → cX
open _root_.Go.Proofs.Tryz
open _root_.Go.Proofs.Tryz renaming prog → ae
open Go.Value renaming int → af, slice → aj, pointer → ai
open Go.IntKind renaming i64 → ag
variable {n base N bw k m b B i:Nat}{w W w' wA wr:World}{v lv vb vs:Value}{M L a:Int}{gN:List (Int×List Int)}{ps:List jj}{l:List Int}{Z:Nat->Prop}{iq gX:List Value}
def v_(n:Nat)(gN:List (Int×List Int)):Prop:=gN.length<=n/\∀y∈gN,y.2.length<=1000
theorem v_.nil:v_ 0 []:=⟨ay _,fun y hy=>(by cases hy)⟩
theorem v_.mono{n':Nat}(h:v_ n gN)(hn:n<=n'):v_ n' gN:=⟨cw h.1 hn,h.2⟩
theorem v_.snoc(h:v_ n gN)(hl:l.length<=1000):v_ (n+1) (gN++[(a,l)]):=by
 refine⟨by have:=h.1;simp;omega,fun y hy=>?_⟩;rcases List.mem_append.1 hy with hy|hy
 ·exact h.2 y hy
 ·simp only[cI,dy,or_false]at hy;rw[hy];exact hl
theorem yA(h:v_ n gN)(c:gZ){f:List Int}(hf:f.length<=500):v_ (n+1) (kB c f gN):=by
 unfold kB
 split
 ·refine h.snoc ?_;have:=(jS c.gL).1;unfold kK;simp only[aT,cK,eG];omega
 ·exact h.mono (by omega)
theorem xh(h:v_ n gN)(g:jG)(c:gZ):v_ (n+1) (kB c (ir g c) gN):=yA h c (by have:=rM g c;omega)
theorem MG(h:v_ n gN)(s:ik)(addr gL size:Int):v_ (n+1) (ql s addr gL size gN):=by
 unfold ql
 split
 ·refine h.snoc ?_;have h1:=(jS gL).1;have h2:=(jS 9).1;have h3:(kr s.c.c9 addr (s.now+s.c.c7)).length=9:=by simp[kr,lx,iL]
  unfold tU;simp only[aT,cK,eG];omega
 ·exact h.mono (by omega)
theorem CI(k:Int):(([19]:List Int)++jn k).length<=500:=by
 have:=(jS k).1;simp only[aT,cK,eG];omega
theorem ts:∀(N:Nat) (s:ik) (i:Nat) (b:List Int) (gN:List (Int×List Int)) (n:Nat),v_ n gN->v_ (n+1) (ji s i b gN N).2
 |0,_,_,_,_,_,h=>h.mono (by omega)
 |N+1,s,i,b,gN,n,h=>by
  unfold ji
  split
  ·exact h.mono (by omega)
  ·split
   ·exact h.mono (by omega)
   ·next c _=>
    split
    ·exact yA h c (CI 7)
    ·split
     ·exact yA h c (CI _)
     ·split
      ·exact h.mono (by omega)
      ·exact ts N _ _ _ _ _ h
theorem LN(s:ik)(addr gL size:Int)(tok b:List Int)(N:Nat):v_ 2 (ox s addr gL size tok b N []).2:=by
 unfold ox
 split
 ·split
  ·unfold mh
   split
   ·exact v_.nil.mono (by omega)
   ·dsimp only
    split
    ·exact v_.nil.mono (by omega)
    ·exact(xh v_.nil _ _).mono (by omega)
  ·exact v_.nil.mono (by omega)
 ·split
  ·split
   ·split
    ·exact v_.nil.mono (by omega)
    ·unfold uJ;exact ts _ _ _ _ _ _ (xh v_.nil _ _)
   ·exact v_.nil.mono (by omega)
  ·split
   ·exact(MG v_.nil _ _ _ _).mono (by omega)
   ·split
    ·exact v_.nil.mono (by omega)
    ·unfold uK;exact ts _ _ _ _ _ _ (xh v_.nil _ _)
theorem OU(s:ik)(addr gL num size:Int)(b:List Int)(N:Nat):v_ 2 (nF s addr gL num size b N []).2:=by
 unfold nF
 split
 ·exact v_.nil.mono (by omega)
 ·split
  ·exact v_.nil.mono (by omega)
  ·split
   ·exact v_.nil.mono (by omega)
   ·split
    ·exact v_.nil.mono (by omega)
    ·exact(ts _ _ _ _ _ _ v_.nil).mono (by omega)
theorem zO(s:ik)(addr:Int)(b:List Int):v_ 2 (jl s addr b).2:=by
 unfold jl
 split
 ·exact v_.nil.mono (by omega)
 ·split
  ·exact v_.nil.mono (by omega)
  ·split
   ·exact LN _ _ _ _ _ _ _
   ·exact OU _ _ _ _ _ _ _
theorem Dx(on a b nn c0 c1 c2 c3 c4 c5 c6 c7 c8 c9:Int)(ad:Addr)(cap:Nat)(l:List Int)(N:Nat)(M L:Int)(base bw k m:Nat)(lv vb vs:Value)(iq gX:List Value)(ps:List jj)(i:Nat)(p:jj)(w:World)(h:jY N M L w base bw k m lv vb vs iq gX ps)(hi:ps[i]? =some p)(hZ:∀k,Z k->k<w.heap.size/\¬p.F k)(hr:xM Z w (aj (some ad) l.length cap) l)(hE:∀W,ip (vX base bw) w W->Env W)(yS:0<=M)(hM:M+l.length+1000<=1125899906842624)(hL:L<=1125899906840000)(hl:l.length<=1073741823)(hN:N+1+l.length<1125899906842624)(hk:k<=4000000000000)(hm:m<=4000000000000):
  Calls ae 63 #[ai (some ⟨bw,0,none⟩),.agg #[ai (some ⟨p.sb,0,none⟩),ai (some ⟨p.rb,0,none⟩)],.agg #[af ag 6,af ag on,af ag a,af ag b,af ag nn,af ag c0,af ag c1,af ag c2,af ag c3,af ag c4,af ag c5,af ag c6,af ag c7,af ag c8,af ag c9,aj (some ad) l.length cap]] w
   fun e w'=>e=.returned (.bool true)/\nU (N+1+l.length) (M+l.length+100) (L+2) base bw k m ps.length lv (PW p bw vb vs) w w':=by
 have HH:=gE h;have HR:=gE hr;have HE:=gE hE;have HZ:=gE hZ;clear h hr hE hZ;go_enter func63,ntmps63;go_wp2_with fail;have kf:=gI (gH w (.cells #[ai (some ⟨p.sb,0,none⟩),ai (some ⟨p.rb,0,none⟩)] 126)) (gH (w.alloc (.cells #[ai (some ⟨p.sb,0,none⟩),ai (some ⟨p.rb,0,none⟩)] 126)) (.cells #[af ag 6,af ag on,af ag a,af ag b,af ag nn,af ag c0,af ag c1,af ag c2,af ag c3,af ag c4,af ag c5,af ag c6,af ag c7,af ag c8,af ag c9,aj (some ad) l.length cap] 90));have rG:=HR.out.below kf;refine(Fy l ad cap _ rG.2.1 rG.reads.src.1).mono ?_;rintro e w1 ⟨g,rfl,hg,ZW,im⟩;have hq:∀j,w1.cell? ⟨w.heap.size,j,none⟩= _:=fun j=>im.cell (p:=⟨w.heap.size,j,none⟩) (by simp;omega)
 have DX:∀j,w1.cell? ⟨w.heap.size+1,j,none⟩= _:=fun j=>im.cell (p:=⟨w.heap.size+1,j,none⟩) (by simp)
 have q0:=hq 0;have q1:=hq 1;have q2:=DX 2;have W9:=DX 15;simp at q0 q1 q2 W9;clear hq DX;have h0:=HH.out.below kf;have we:=h0.pair i p hi;have Bd:=we.below im;have zu:=gI kf im;have Fq:g<w1.heap.size:=(aO.1 hg).1
 have hsw:w.heap.size+1<w1.heap.size:=by
  have:=im.size;simp at this;omega
 have HS:=gE (zV N p.sb p.s p.cm p.wv p.gP p.xs p.ws a l (aj (some ⟨g,0,none⟩) l.length (l.length+1)) w1 Bd.prog Bd.inv (me.YX HR.out.1 HR.out.2.1 hg) hl yS (by omega) hN (fun W hW=>HE.out W ((ip.gS zu).andThen hW (fun q _ e=>aV (HH.out.low i p q hi (a_ e))))));have H0:=gE h0;have HG:=gE hg;have pQ:=gE kf;have nB:=gE im;have YG:=im.size;have aby:=kf.size;clear h0 hg kf im we Bd rG;go_wp2_with fail;refine HS.out.mono ?_;intro e w2 hS;clear HS;have q1b:=(oH (HH.out.pair i p hi) hS.iO (q:=w.heap.size) (ay _) (by omega) 1).trans q1;have q2b:=(oH (HH.out.pair i p hi) hS.iO (q:=w.heap.size+1) (by omega) (by omega) 2).trans q2;have Ze:=(oH (HH.out.pair i p hi) hS.iO (q:=w.heap.size+1) (by omega) (by omega) 15).trans W9;have Bd:=(H0.out.pair i p hi).below nB.out;have R5:xM Z w2 (aj (some ad) l.length cap) l:=(HR.out.below zu).iO hS.iO (fun q hq e=>(HZ.out q hq).2 (a_ e));have hsZ:=zu.size;have ad5:=hS.iO.size;obtain⟨v1,rfl,hRm⟩:=Kg (H0.out.pair i p hi) nB.out hS (fun q hq=>⟨by have:=(HZ.out q hq).1;omega,fun e=>(HZ.out q hq).2 (aV e)⟩) R5 yS hM hL hl;have Xx:=gE hRm;have YH:=hS.iO.size;obtain⟨gN,Jx⟩:∃gN,(jl p.s a l).2=gN:=⟨_,rfl⟩;have wK:=zO p.s a l;rw[Jx]at wK Xx;have HF:=gE wK;clear hRm R5 Bd hS Jx wK;go_wp2_with fail;refine Xx.out.mono ?_;rintro e w3 ⟨v2,p',out,oS,rfl,hMd,LK⟩;clear Xx
 have xt:∀q,w.heap.size<=q->¬p.F q:=fun q hq e=>by
  have:=(HH.out.pair i p hi).lt e;omega
 have Zf:w3.cell? ⟨w.heap.size+1,15,none⟩= _:=(cF (w:=w1) (a:=⟨w.heap.size+1,15,none⟩) (LK.block (w.heap.size+1) hsw (xt (w.heap.size+1) (Nat.le_succ _)))).trans W9
 have qa:w3.heap[g]? =some (.cells (U8 (l++[77])).toArray 5 (0,0)):=by
  rw[LK.block g Fq (xt g (cw aby ZW))];exact HG.out
 have Bd:=(H0.out.pair i p hi).below nB.out;have aaV:xM Z w3 (aj (some ad) l.length cap) l:=(HR.out.below zu).iO LK (fun q hq e=>(HZ.out q hq).2 e);have Um:=gE (UG l ad cap g w3 HR.out.1 HR.out.2.1 qa aaV.reads.src.2);have Xo:=gE hMd;have Xi:=gE qa;clear aaV Bd hMd qa LK q0 q1 q2 W9 q1b q2b Ze;go_wp2_with fail;refine Um.out.mono ?_;rintro e w4 ⟨rfl,ud⟩;clear Um Zf;have CR:w1.heap.size<=w2.heap.size:=YH;have Au:=Xo.out.back ud CR ZW Fq Xi.out;have KH:=gE (Fz out oS gN w1.heap.size w2.heap.size v1 v2 w4 Au.row Au.ow.by Au.G9 Au.ZG (by have:=HF.out.1;omega));have Xf:=gE ud;have HM4:=gE Au;clear ud Au;go_wp2_with fail;refine KH.out.mono ?_;rintro e w5 ⟨rfl,n5,rfl⟩;clear KH;have ym:=HM4.out.below (gK (Below.refl _ _) n5) CR;have h0:=H0.out;have we:=h0.pair i p hi;have vQ:=h0.wl.typed Xo.out.iO (fun q cur e fr hq he=>we.law hq (by rcases he with rfl|rfl|rfl|rfl|rfl<;>simp[qY]))
 have JJ:∀q,tI bw vb vs q->q<((w.alloc (.cells #[ai (some ⟨p.sb,0,none⟩),ai (some ⟨p.rb,0,none⟩)] 126)).alloc (.cells #[af ag 6,af ag on,af ag a,af ag b,af ag nn,af ag c0,af ag c1,af ag c2,af ag c3,af ag c4,af ag c5,af ag c6,af ag c7,af ag c8,af ag c9,aj (some ad) l.length cap] 90)).heap.size:=fun q hq=>by
  obtain⟨c,e,h1,_⟩:=h0.wl.type hq;exact(aO.1 h1).1
 have pZ:∀{t:TypeId} {sz n:Nat} {xs:List Value} {u:Value} {q:Nat},((w.alloc (.cells #[ai (some ⟨p.sb,0,none⟩),ai (some ⟨p.rb,0,none⟩)] 126)).alloc (.cells #[af ag 6,af ag on,af ag a,af ag b,af ag nn,af ag c0,af ag c1,af ag c2,af ag c3,af ag c4,af ag c5,af ag c6,af ag c7,af ag c8,af ag c9,aj (some ad) l.length cap] 90)).ownsRow base t sz u n xs->u.ownBlock=some q->q<((w.alloc (.cells #[ai (some ⟨p.sb,0,none⟩),ai (some ⟨p.rb,0,none⟩)] 126)).alloc (.cells #[af ag 6,af ag on,af ag a,af ag b,af ag nn,af ag c0,af ag c1,af ag c2,af ag c3,af ag c4,af ag c5,af ag c6,af ag c7,af ag c8,af ag c9,aj (some ad) l.length cap] 90)).heap.size:=fun hr hq=>by
  obtain⟨c,e⟩:=ii hr hq;exact(aO.1 e).1
 have YQ:WL w4 base bw lv vb vs k m iq gX:=vQ.iO Xf.out (fun e=>by have:=JJ bw (a_ rfl);omega) (fun q hq e=>by have:=JJ q (aV (a_ hq));omega) (fun q hq e=>by have:=JJ q (aV (aV hq));omega) (fun j u q hu h1 hq e=>by
   obtain⟨n,_,_,hr⟩:=xA.yB h0.wl hu h1;have:=pZ hr hq;omega) (fun j u q hu h1 hq e=>by
   obtain⟨n,_,_,hr⟩:=Am.yB h0.wl hu h1;have:=pZ hr hq;omega)
 have YR:=YQ.below (gK (Below.refl w4.heap.size w4) n5);have qQ:=h0.tj;have BF:=HF.out.1;have NS:out.length=gN.length:=ym.ow.1;have adf:w3.heap.size<=w4.heap.size:=Xf.out.size;have adc:=Xo.out.iO.size
 have QH:=gE (JU base bw k m lv vb vs v1 iq gX out gN (w4.drewN n5) YR (by show base<=w4.heap.size;omega) (iE ym.row (by omega)) (ym.ow.mono (by omega)) (fun j u j' x q hu h1 hx hq he=>by
   obtain⟨n,_,_,hr⟩:=xA.yB h0.wl hu h1;have h2:=pZ hr he;have h3:=(ym.ow.ge hx hq).1;omega) (fun j u q hu h1 hq he=>by
   obtain⟨n,_,_,hr⟩:=Am.yB h0.wl hu h1;have h2:=pZ hr he;have h3:=ph ym.row hq;omega) (by omega) (fun j y hy=>by have:=HF.out.2 y (bT hy);omega) hk hm)
 have Ut:=gE ym;have XB:=gE YR;have Xm:=gE JJ;clear ym h0 we vQ JJ pZ YQ YR;go_wp2_with fail;refine QH.out.mono ?_;rintro e w6 ⟨rfl,⟨vb6,vs6,Kz,DC,hw6⟩,Eb⟩;obtain⟨hp6,LJ⟩:=Ut.out.news XB.out Xm.out (by omega) (by omega) Eb;have nZ:=gE ((H0.out.mono (N':=N+1+l.length) (M':=M+l.length+100) (L':=L+2) (by omega) (by omega) (by omega)).fin hi LJ hp6 Ut.out.xH Ut.out.same.1 Ut.out.same.2 hw6);have E1:Hid (ip (PW p bw vb vs) w w6):=(ip.gS pQ.out).trans (LJ.mono fun q _ e=>e);clear QH hw6 Eb hp6 LJ;go_wp2_with fail;go_ret;exact⟨rfl,⟨_,_,_,_,_,_,_,by omega,ay _,by simp,nZ.out⟩,E1.out⟩
theorem yK(on a b nn c0 c1 c2 c3 c4 c5 c6 c7 c8 c9:Int)(N:Nat)(M L:Int)(base bw k m:Nat)(lv vb vs:Value)(iq gX:List Value)(ps:List jj)(i:Nat)(p:jj)(w:World)(h:jY N M L w base bw k m lv vb vs iq gX ps)(hi:ps[i]? =some p)(hE:∀W,ip (vX base bw) w W->Env W)(yS:0<=M)(hM:M+1000<=1125899906842624)(hL:L<=1125899906840000)(hN:N+1<1125899906842624)(hk:k<=4000000000000)(hm:m<=4000000000000):
  Calls ae 63 #[ai (some ⟨bw,0,none⟩),.agg #[ai (some ⟨p.sb,0,none⟩),ai (some ⟨p.rb,0,none⟩)],.agg #[af ag 6,af ag on,af ag a,af ag b,af ag nn,af ag c0,af ag c1,af ag c2,af ag c3,af ag c4,af ag c5,af ag c6,af ag c7,af ag c8,af ag c9,aj none 0 0]] w
   fun e w'=>e=.returned (.bool true)/\nU (N+1) (M+100) (L+2) base bw k m ps.length lv (PW p bw vb vs) w w':=by
 have HH:=gE h;have HE:=gE hE;clear h hE;go_enter func63,ntmps63;go_wp2_with fail;have kf:=gI (gH w (.cells #[ai (some ⟨p.sb,0,none⟩),ai (some ⟨p.rb,0,none⟩)] 126)) (gH (w.alloc (.cells #[ai (some ⟨p.sb,0,none⟩),ai (some ⟨p.rb,0,none⟩)] 126)) (.cells #[af ag 6,af ag on,af ag a,af ag b,af ag nn,af ag c0,af ag c1,af ag c2,af ag c3,af ag c4,af ag c5,af ag c6,af ag c7,af ag c8,af ag c9,aj none 0 0] 90));refine(JO _).mono ?_;rintro e wz ⟨rfl,rfl⟩;have im:=Below.refl ((w.alloc (.cells #[ai (some ⟨p.sb,0,none⟩),ai (some ⟨p.rb,0,none⟩)] 126)).alloc (.cells #[af ag 6,af ag on,af ag a,af ag b,af ag nn,af ag c0,af ag c1,af ag c2,af ag c3,af ag c4,af ag c5,af ag c6,af ag c7,af ag c8,af ag c9,aj none 0 0] 90)).heap.size ((w.alloc (.cells #[ai (some ⟨p.sb,0,none⟩),ai (some ⟨p.rb,0,none⟩)] 126)).alloc (.cells #[af ag 6,af ag on,af ag a,af ag b,af ag nn,af ag c0,af ag c1,af ag c2,af ag c3,af ag c4,af ag c5,af ag c6,af ag c7,af ag c8,af ag c9,aj none 0 0] 90));have q1:((w.alloc (.cells #[ai (some ⟨p.sb,0,none⟩),ai (some ⟨p.rb,0,none⟩)] 126)).alloc (.cells #[af ag 6,af ag on,af ag a,af ag b,af ag nn,af ag c0,af ag c1,af ag c2,af ag c3,af ag c4,af ag c5,af ag c6,af ag c7,af ag c8,af ag c9,aj none 0 0] 90)).cell? ⟨w.heap.size,1,none⟩= some (ai (some ⟨p.rb,0,none⟩)):=by simp
 have q2:((w.alloc (.cells #[ai (some ⟨p.sb,0,none⟩),ai (some ⟨p.rb,0,none⟩)] 126)).alloc (.cells #[af ag 6,af ag on,af ag a,af ag b,af ag nn,af ag c0,af ag c1,af ag c2,af ag c3,af ag c4,af ag c5,af ag c6,af ag c7,af ag c8,af ag c9,aj none 0 0] 90)).cell? ⟨w.heap.size+1,2,none⟩= some (af ag a):=by simp
 have W9:((w.alloc (.cells #[ai (some ⟨p.sb,0,none⟩),ai (some ⟨p.rb,0,none⟩)] 126)).alloc (.cells #[af ag 6,af ag on,af ag a,af ag b,af ag nn,af ag c0,af ag c1,af ag c2,af ag c3,af ag c4,af ag c5,af ag c6,af ag c7,af ag c8,af ag c9,aj none 0 0] 90)).cell? ⟨w.heap.size+1,15,none⟩= some (aj none 0 0):=by simp
 have h0:=HH.out.below kf;have we:=h0.pair i p hi;have Bd:=we.below im;have zu:=gI kf im;have hsw:w.heap.size+1<((w.alloc (.cells #[ai (some ⟨p.sb,0,none⟩),ai (some ⟨p.rb,0,none⟩)] 126)).alloc (.cells #[af ag 6,af ag on,af ag a,af ag b,af ag nn,af ag c0,af ag c1,af ag c2,af ag c3,af ag c4,af ag c5,af ag c6,af ag c7,af ag c8,af ag c9,aj none 0 0] 90)).heap.size:=by simp
 have HS:=gE (zV N p.sb p.s p.cm p.wv p.gP p.xs p.ws a [] (aj none 0 0) ((w.alloc (.cells #[ai (some ⟨p.sb,0,none⟩),ai (some ⟨p.rb,0,none⟩)] 126)).alloc (.cells #[af ag 6,af ag on,af ag a,af ag b,af ag nn,af ag c0,af ag c1,af ag c2,af ag c3,af ag c4,af ag c5,af ag c6,af ag c7,af ag c8,af ag c9,aj none 0 0] 90)) Bd.prog Bd.inv (me.nil _) (by simp) yS (by simp;omega) (by simp;omega) (fun W hW=>HE.out W ((ip.gS zu).andThen hW (fun q _ e=>aV (HH.out.low i p q hi (a_ e))))));have H0:=gE h0;have pQ:=gE kf;have nB:=gE im;have YG:=im.size;have aby:=kf.size;clear h0 kf im we Bd;go_wp2_with fail;refine HS.out.mono ?_;intro e w2 hS;clear HS;have q1b:=(oH (HH.out.pair i p hi) hS.iO (q:=w.heap.size) (ay _) (by omega) 1).trans q1;have q2b:=(oH (HH.out.pair i p hi) hS.iO (q:=w.heap.size+1) (by omega) (by omega) 2).trans q2;have Ze:=(oH (HH.out.pair i p hi) hS.iO (q:=w.heap.size+1) (by omega) (by omega) 15).trans W9;have Bd:=(H0.out.pair i p hi).below nB.out;have R5:xM (fun _=>False) w2 (aj none 0 0) []:=xM.nil _ _;obtain⟨v1,rfl,hRm⟩:=Kg (H0.out.pair i p hi) nB.out hS (fun _ h=>h.elim) R5 yS (by simp;omega) hL (by simp);have Xx:=gE hRm;have YH:=hS.iO.size;obtain⟨gN,Jx⟩:∃gN,(jl p.s a []).2=gN:=⟨_,rfl⟩;have wK:=zO p.s a [];rw[Jx]at wK Xx;have HF:=gE wK;clear hRm R5 Bd hS Jx wK;go_wp2_with fail;refine Xx.out.mono ?_;rintro e w3 ⟨v2,p',out,oS,rfl,hMd,LK⟩;clear Xx
 have xt:∀q,w.heap.size<=q->¬p.F q:=fun q hq e=>by
  have:=(HH.out.pair i p hi).lt e;omega
 have Zf:w3.cell? ⟨w.heap.size+1,15,none⟩= _:=(cF (w:=((w.alloc (.cells #[ai (some ⟨p.sb,0,none⟩),ai (some ⟨p.rb,0,none⟩)] 126)).alloc (.cells #[af ag 6,af ag on,af ag a,af ag b,af ag nn,af ag c0,af ag c1,af ag c2,af ag c3,af ag c4,af ag c5,af ag c6,af ag c7,af ag c8,af ag c9,aj none 0 0] 90))) (a:=⟨w.heap.size+1,15,none⟩) (LK.block (w.heap.size+1) hsw (xt (w.heap.size+1) (Nat.le_succ _)))).trans W9;have Um:=gE (IG (aj none 0 0) w3);have Xo:=gE hMd;clear hMd LK q1 q2 W9 q1b q2b Ze;go_wp2_with fail;refine Um.out.mono ?_;rintro e wz ⟨rfl,rfl⟩;clear Um Zf;have CR:((w.alloc (.cells #[ai (some ⟨p.sb,0,none⟩),ai (some ⟨p.rb,0,none⟩)] 126)).alloc (.cells #[af ag 6,af ag on,af ag a,af ag b,af ag nn,af ag c0,af ag c1,af ag c2,af ag c3,af ag c4,af ag c5,af ag c6,af ag c7,af ag c8,af ag c9,aj none 0 0] 90)).heap.size<=w2.heap.size:=YH;have Au:=Xo.out;have ud:ip (fun _=>False) w3 w3:=ip.refl _ _;have KH:=gE (Fz out oS gN ((w.alloc (.cells #[ai (some ⟨p.sb,0,none⟩),ai (some ⟨p.rb,0,none⟩)] 126)).alloc (.cells #[af ag 6,af ag on,af ag a,af ag b,af ag nn,af ag c0,af ag c1,af ag c2,af ag c3,af ag c4,af ag c5,af ag c6,af ag c7,af ag c8,af ag c9,aj none 0 0] 90)).heap.size w2.heap.size v1 v2 w3 Au.row Au.ow.by Au.G9 Au.ZG (by have:=HF.out.1;omega));have Xf:=gE ud;have HM4:=gE Au;clear ud Au;go_wp2_with fail;refine KH.out.mono ?_;rintro e w5 ⟨rfl,n5,rfl⟩;clear KH;have ym:=HM4.out.below (gK (Below.refl _ _) n5) CR;have h0:=H0.out;have we:=h0.pair i p hi;have vQ:=h0.wl.typed Xo.out.iO (fun q cur e fr hq he=>we.law hq (by rcases he with rfl|rfl|rfl|rfl|rfl<;>simp[qY]))
 have JJ:∀q,tI bw vb vs q->q<((w.alloc (.cells #[ai (some ⟨p.sb,0,none⟩),ai (some ⟨p.rb,0,none⟩)] 126)).alloc (.cells #[af ag 6,af ag on,af ag a,af ag b,af ag nn,af ag c0,af ag c1,af ag c2,af ag c3,af ag c4,af ag c5,af ag c6,af ag c7,af ag c8,af ag c9,aj none 0 0] 90)).heap.size:=fun q hq=>by
  obtain⟨c,e,h1,_⟩:=h0.wl.type hq;exact(aO.1 h1).1
 have pZ:∀{t:TypeId} {sz n:Nat} {xs:List Value} {u:Value} {q:Nat},((w.alloc (.cells #[ai (some ⟨p.sb,0,none⟩),ai (some ⟨p.rb,0,none⟩)] 126)).alloc (.cells #[af ag 6,af ag on,af ag a,af ag b,af ag nn,af ag c0,af ag c1,af ag c2,af ag c3,af ag c4,af ag c5,af ag c6,af ag c7,af ag c8,af ag c9,aj none 0 0] 90)).ownsRow base t sz u n xs->u.ownBlock=some q->q<((w.alloc (.cells #[ai (some ⟨p.sb,0,none⟩),ai (some ⟨p.rb,0,none⟩)] 126)).alloc (.cells #[af ag 6,af ag on,af ag a,af ag b,af ag nn,af ag c0,af ag c1,af ag c2,af ag c3,af ag c4,af ag c5,af ag c6,af ag c7,af ag c8,af ag c9,aj none 0 0] 90)).heap.size:=fun hr hq=>by
  obtain⟨c,e⟩:=ii hr hq;exact(aO.1 e).1
 have vQ:=vQ;have YR:=vQ.below (gK (Below.refl w3.heap.size w3) n5);have qQ:=h0.tj;have BF:=HF.out.1;have NS:out.length=gN.length:=ym.ow.1;have adf:w3.heap.size<=w3.heap.size:=Xf.out.size;have adc:=Xo.out.iO.size
 have QH:=gE (JU base bw k m lv vb vs v1 iq gX out gN (w3.drewN n5) YR (by show base<=w3.heap.size;omega) (iE ym.row (by omega)) (ym.ow.mono (by omega)) (fun j u j' x q hu h1 hx hq he=>by
   obtain⟨n,_,_,hr⟩:=xA.yB h0.wl hu h1;have h2:=pZ hr he;have h3:=(ym.ow.ge hx hq).1;omega) (fun j u q hu h1 hq he=>by
   obtain⟨n,_,_,hr⟩:=Am.yB h0.wl hu h1;have h2:=pZ hr he;have h3:=ph ym.row hq;omega) (by omega) (fun j y hy=>by have:=HF.out.2 y (bT hy);omega) hk hm)
 have Ut:=gE ym;have XB:=gE YR;have Xm:=gE JJ;clear ym h0 we vQ JJ pZ YR;go_wp2_with fail;refine QH.out.mono ?_;rintro e w6 ⟨rfl,⟨vb6,vs6,Kz,DC,hw6⟩,Eb⟩;obtain⟨hp6,LJ⟩:=Ut.out.news XB.out Xm.out (by omega) (by omega) Eb;have nZ:=gE ((H0.out.mono (N':=N+1) (M':=M+100) (L':=L+2) (by omega) (by omega) (by omega)).fin hi LJ (hp6.mono (by simp) (by simp) (Int.le_refl _)) Ut.out.xH Ut.out.same.1 Ut.out.same.2 hw6);have E1:Hid (ip (PW p bw vb vs) w w6):=(ip.gS pQ.out).trans (LJ.mono fun q _ e=>e);clear QH hw6 Eb hp6 LJ;go_wp2_with fail;go_ret;exact⟨rfl,⟨_,_,_,_,_,_,_,by omega,ay _,by simp,nZ.out⟩,E1.out⟩
theorem GS{p:jj}(h:ps[i]? =some p):(lB ps)[i*2]? =some (ai (some ⟨p.sb,0,none⟩))/\(lB ps)[i*2+1]? =some (ai (some ⟨p.rb,0,none⟩)):=by
 induction ps generalizing i with
 |nil=>simp at h
 |cons a r ih=>
  have e:lB (a::r)=[ai (some ⟨a.sb,0,none⟩),ai (some ⟨a.rb,0,none⟩)]++lB r:=by simp[lB]
  cases i with
  |zero=>
   simp only[cz,Option.some.injEq]at h;subst h;rw[e];simp
  |succ i=>
   have h1:=ih (i:=i) (by simpa using h);have e1:(i+1)*2=2+i*2:=by omega
   have e2:(i+1)*2+1=2+(i*2+1):=by omega
   rw[e]
   constructor
   ·rw[e1,aF (by simp)];simpa using h1.1
   ·rw[e2,aF (by simp)];simpa using h1.2
theorem Qp(kd on a b nn c0 c1 c2 c3 c4 c5 c6 c7 c8 c9:Int)(v:Value)(N:Nat)(M L:Int)(base bw k m:Nat)(lv vb vs:Value)(iq gX:List Value)(w:World)(h:jY N M L w base bw k m lv vb vs iq gX [])(hk:kd<1\/5<kd):
  Calls ae 35 #[ai (some ⟨bw,0,none⟩),.agg #[af ag kd,af ag on,af ag a,af ag b,af ag nn,af ag c0,af ag c1,af ag c2,af ag c3,af ag c4,af ag c5,af ag c6,af ag c7,af ag c8,af ag c9,v]] w
   fun e w'=>e=.returned (.bool true)/\th N M L base bw k m 0 w w':=by
 obtain⟨al,cl,Fs⟩:=iA h.yz;subst Fs;have hb:=gH w (.cells #[af ag kd,af ag on,af ag a,af ag b,af ag nn,af ag c0,af ag c1,af ag c2,af ag c3,af ag c4,af ag c5,af ag c6,af ag c7,af ag c8,af ag c9,v] 90);have jp:bw<w.heap.size:=(aO.1 h.wl.i_).1;have c0':(w.alloc (.cells #[af ag kd,af ag on,af ag a,af ag b,af ag nn,af ag c0,af ag c1,af ag c2,af ag c3,af ag c4,af ag c5,af ag c6,af ag c7,af ag c8,af ag c9,v] 90)).cell? ⟨bw,0,none⟩= some (.slice al 0 cl):=by simp[aX,(h.below hb).wl.i_]
 have HO:=gE ((h.below hb).out rfl (ip.gS hb));clear h hb;rcases hk with hk|hk
 ·go_enter func35,ntmps35;go_wp2_with fail;go_ret;exact⟨rfl,HO.out⟩
 ·go_enter func35,ntmps35;go_wp2_with fail;go_ret;exact⟨rfl,HO.out⟩
def FC(c:Int)(n:Nat):Nat:=if c<0 then((-(c+1))%(n:Int)).toNat else(c%(n:Int)).toNat
theorem S'(c:Int)(h:0<n):FC c n<n:=by
 unfold FC;have h1:=eF c (show(n:Int)≠0 by omega);have h2:=Int.emod_lt_of_pos c (show(0:Int)<n by omega);have h3:=eF (-(c+1)) (show(n:Int)≠0 by omega);have h4:=Int.emod_lt_of_pos (-(c+1)) (show(0:Int)<n by omega)
 split<;>omega
theorem VF(c:Int)(n:Nat)(w:World)(hc:-9223372036854775808<=c/\c<=9223372036854775807)(h0:0<n)(hn:n<=1000000000000):
  Calls ae 64 #[af ag c,af ag n] w fun e w'=>e=.returned (af ag (FC c n))/\w=w':=by
 rcases Int.lt_or_le c 0 with h1|h1
 ·go_enter func64,ntmps64;go_wp2_with fail;go_ret;have hm:=eF (-(c+1)) (show(n:Int)≠0 by omega);refine⟨?_,rfl⟩;unfold FC;rw[if_pos h1];have e:-((c+1).tmod (n:Int))=(-(c+1))%(n:Int):=by rw[<-Int.neg_tmod,Int.tmod_eq_emod_of_nonneg (by omega)]
  show Ending.returned (af ag (-((c+1).tmod (n:Int))))=.returned (af ag ((((-(c+1))%(n:Int)).toNat:Nat):Int));rw[e,Int.toNat_of_nonneg hm]
 ·go_enter func64,ntmps64;go_wp2_with fail;go_ret;have hm:=eF c (show(n:Int)≠0 by omega);refine⟨?_,rfl⟩;unfold FC;rw[if_neg (by omega)];show Ending.returned (af ag (c%(n:Int)))=.returned (af ag (((c%(n:Int)).toNat:Nat):Int));rw[Int.toNat_of_nonneg hm]
theorem Kr(kd on a b nn c0 c1 c2 c3 c4 c5 c6 c7 c8 c9:Int)(v:Value)(N N':Nat)(M L M' L':Int)(base bw k m:Nat)(lv vb vs:Value)(iq gX:List Value)(ps:List jj)(w:World)(h:jY N M L w base bw k m lv vb vs iq gX ps)(hk:5<kd)(hp:0<ps.length)(hn:ps.length<=1000000000000)(Ca:-9223372036854775808<=on/\on<=9223372036854775807)
  (hS:∀(i:Nat) p,ps[i]? =some p->∀W,Below w.heap.size w W->Calls ae 63 #[ai (some ⟨bw,0,none⟩),.agg #[ai (some ⟨p.sb,0,none⟩),ai (some ⟨p.rb,0,none⟩)],.agg #[af ag kd,af ag on,af ag a,af ag b,af ag nn,af ag c0,af ag c1,af ag c2,af ag c3,af ag c4,af ag c5,af ag c6,af ag c7,af ag c8,af ag c9,v]] W fun e w'=>e=.returned (.bool true)/\nU N' M' L' base bw k m ps.length lv (PW p bw vb vs) W w'):
  Calls ae 35 #[ai (some ⟨bw,0,none⟩),.agg #[af ag kd,af ag on,af ag a,af ag b,af ag nn,af ag c0,af ag c1,af ag c2,af ag c3,af ag c4,af ag c5,af ag c6,af ag c7,af ag c8,af ag c9,v]] w
   fun e w'=>e=.returned (.bool true)/\th N' M' L' base bw k m ps.length w w':=by
 obtain⟨g,cl,Fs,_,_,_⟩:=sw h.yz hp;subst Fs;have hb:=gH w (.cells #[af ag kd,af ag on,af ag a,af ag b,af ag nn,af ag c0,af ag c1,af ag c2,af ag c3,af ag c4,af ag c5,af ag c6,af ag c7,af ag c8,af ag c9,v] 90);have jp:bw<w.heap.size:=(aO.1 h.wl.i_).1;have js:((ps.length:Int)==0)=false:=beq_eq_false_iff_ne.2 (by omega);obtain⟨j,hj⟩:∃j,FC on ps.length=j:=⟨_,rfl⟩
 have qp:j<ps.length:=by
  rw[<-hj];exact S' on hp
 obtain⟨p,Z4⟩:∃p,ps[j]? =some p:=⟨_,am qp⟩
 have HPk:Hid (∀W,Calls ae 64 #[af ag on,af ag (ps.length:Nat)] W fun e w'=>e=.returned (af ag (j:Nat))/\W=w'):=fun W=>by
  rw[<-hj];exact VF on ps.length W Ca hp hn
 have HSv:=gE (hS j p Z4);have HB:=gE hb;obtain⟨s1,s2⟩:=GS Z4;have kE:=(h.below hb).yz;have e1:=kE.cellAt (j*2) (by omega);have e2:=kE.cellAt (j*2+1) (by omega);rw[s1]at e1;rw[s2]at e2;have d0:(w.alloc (.cells #[af ag kd,af ag on,af ag a,af ag b,af ag nn,af ag c0,af ag c1,af ag c2,af ag c3,af ag c4,af ag c5,af ag c6,af ag c7,af ag c8,af ag c9,v] 90)).cell? ⟨bw,0,none⟩= some (aj (some ⟨g,0,none⟩) ps.length cl):=by simp[aX,(h.below hb).wl.i_]
 have DZ:Hid ((w.alloc (.cells #[af ag kd,af ag on,af ag a,af ag b,af ag nn,af ag c0,af ag c1,af ag c2,af ag c3,af ag c4,af ag c5,af ag c6,af ag c7,af ag c8,af ag c9,v] 90)).cell? ⟨bw,0,none⟩= some (aj (some ⟨g,0,none⟩) ps.length cl)/\(w.alloc (.cells #[af ag kd,af ag on,af ag a,af ag b,af ag nn,af ag c0,af ag c1,af ag c2,af ag c3,af ag c4,af ag c5,af ag c6,af ag c7,af ag c8,af ag c9,v] 90)).cell? ⟨w.heap.size,0,none⟩= some (af ag kd)/\(w.alloc (.cells #[af ag kd,af ag on,af ag a,af ag b,af ag nn,af ag c0,af ag c1,af ag c2,af ag c3,af ag c4,af ag c5,af ag c6,af ag c7,af ag c8,af ag c9,v] 90)).cell? ⟨w.heap.size,1,none⟩= some (af ag on)/\(w.alloc (.cells #[af ag kd,af ag on,af ag a,af ag b,af ag nn,af ag c0,af ag c1,af ag c2,af ag c3,af ag c4,af ag c5,af ag c6,af ag c7,af ag c8,af ag c9,v] 90)).cell? ⟨w.heap.size,2,none⟩= some (af ag a)/\(w.alloc (.cells #[af ag kd,af ag on,af ag a,af ag b,af ag nn,af ag c0,af ag c1,af ag c2,af ag c3,af ag c4,af ag c5,af ag c6,af ag c7,af ag c8,af ag c9,v] 90)).cell? ⟨w.heap.size,3,none⟩= some (af ag b)/\(w.alloc (.cells #[af ag kd,af ag on,af ag a,af ag b,af ag nn,af ag c0,af ag c1,af ag c2,af ag c3,af ag c4,af ag c5,af ag c6,af ag c7,af ag c8,af ag c9,v] 90)).cell? ⟨w.heap.size,4,none⟩= some (af ag nn)/\(w.alloc (.cells #[af ag kd,af ag on,af ag a,af ag b,af ag nn,af ag c0,af ag c1,af ag c2,af ag c3,af ag c4,af ag c5,af ag c6,af ag c7,af ag c8,af ag c9,v] 90)).cell? ⟨w.heap.size,5,none⟩= some (af ag c0)/\(w.alloc (.cells #[af ag kd,af ag on,af ag a,af ag b,af ag nn,af ag c0,af ag c1,af ag c2,af ag c3,af ag c4,af ag c5,af ag c6,af ag c7,af ag c8,af ag c9,v] 90)).cell? ⟨w.heap.size,6,none⟩= some (af ag c1)/\(w.alloc (.cells #[af ag kd,af ag on,af ag a,af ag b,af ag nn,af ag c0,af ag c1,af ag c2,af ag c3,af ag c4,af ag c5,af ag c6,af ag c7,af ag c8,af ag c9,v] 90)).cell? ⟨w.heap.size,7,none⟩= some (af ag c2)/\(w.alloc (.cells #[af ag kd,af ag on,af ag a,af ag b,af ag nn,af ag c0,af ag c1,af ag c2,af ag c3,af ag c4,af ag c5,af ag c6,af ag c7,af ag c8,af ag c9,v] 90)).cell? ⟨w.heap.size,8,none⟩= some (af ag c3)/\(w.alloc (.cells #[af ag kd,af ag on,af ag a,af ag b,af ag nn,af ag c0,af ag c1,af ag c2,af ag c3,af ag c4,af ag c5,af ag c6,af ag c7,af ag c8,af ag c9,v] 90)).cell? ⟨w.heap.size,9,none⟩= some (af ag c4)/\(w.alloc (.cells #[af ag kd,af ag on,af ag a,af ag b,af ag nn,af ag c0,af ag c1,af ag c2,af ag c3,af ag c4,af ag c5,af ag c6,af ag c7,af ag c8,af ag c9,v] 90)).cell? ⟨w.heap.size,10,none⟩= some (af ag c5)/\(w.alloc (.cells #[af ag kd,af ag on,af ag a,af ag b,af ag nn,af ag c0,af ag c1,af ag c2,af ag c3,af ag c4,af ag c5,af ag c6,af ag c7,af ag c8,af ag c9,v] 90)).cell? ⟨w.heap.size,11,none⟩= some (af ag c6)/\(w.alloc (.cells #[af ag kd,af ag on,af ag a,af ag b,af ag nn,af ag c0,af ag c1,af ag c2,af ag c3,af ag c4,af ag c5,af ag c6,af ag c7,af ag c8,af ag c9,v] 90)).cell? ⟨w.heap.size,12,none⟩= some (af ag c7)/\(w.alloc (.cells #[af ag kd,af ag on,af ag a,af ag b,af ag nn,af ag c0,af ag c1,af ag c2,af ag c3,af ag c4,af ag c5,af ag c6,af ag c7,af ag c8,af ag c9,v] 90)).cell? ⟨w.heap.size,13,none⟩= some (af ag c8)/\(w.alloc (.cells #[af ag kd,af ag on,af ag a,af ag b,af ag nn,af ag c0,af ag c1,af ag c2,af ag c3,af ag c4,af ag c5,af ag c6,af ag c7,af ag c8,af ag c9,v] 90)).cell? ⟨w.heap.size,14,none⟩= some (af ag c9)/\(w.alloc (.cells #[af ag kd,af ag on,af ag a,af ag b,af ag nn,af ag c0,af ag c1,af ag c2,af ag c3,af ag c4,af ag c5,af ag c6,af ag c7,af ag c8,af ag c9,v] 90)).cell? ⟨w.heap.size,15,none⟩= some v/\(w.alloc (.cells #[af ag kd,af ag on,af ag a,af ag b,af ag nn,af ag c0,af ag c1,af ag c2,af ag c3,af ag c4,af ag c5,af ag c6,af ag c7,af ag c8,af ag c9,v] 90)).cell? ⟨g,j*2,none⟩= some (ai (some ⟨p.sb,0,none⟩))/\(w.alloc (.cells #[af ag kd,af ag on,af ag a,af ag b,af ag nn,af ag c0,af ag c1,af ag c2,af ag c3,af ag c4,af ag c5,af ag c6,af ag c7,af ag c8,af ag c9,v] 90)).cell? ⟨g,j*2+1,none⟩= some (ai (some ⟨p.rb,0,none⟩))):=by
  refine⟨d0,?_,?_,?_,?_,?_,?_,?_,?_,?_,?_,?_,?_,?_,?_,?_,?_,e1,e2⟩<;>simp
 have hPF:∀q,PW p bw vb vs q->q<w.heap.size:=fun q hq=>by
  rcases hq with e|e
  ·exact(h.pair j p Z4).lt e
  ·obtain⟨cur,ty,e',_⟩:=h.wl.type e;exact(aO.1 e').1
 obtain⟨acd,Sh⟩:=ii h.yz (g:=g) rfl
 have ZR:¬PW p bw vb vs g:=fun hq=>by
  rcases hq with e|e
  ·exact(h.pair j p Z4).law Sh (by simp[qY]) e
  ·exact h.wl.Ml Sh (by decide) (by decide) (by decide) e
 have Fq:g<(w.alloc (.cells #[af ag kd,af ag on,af ag a,af ag b,af ag nn,af ag c0,af ag c1,af ag c2,af ag c3,af ag c4,af ag c5,af ag c6,af ag c7,af ag c8,af ag c9,v] 90)).heap.size:=by
  have:=(aO.1 Sh).1;simp;omega
 have Zx:Hid (∀W W':World,W.heap=(w.alloc (.cells #[af ag kd,af ag on,af ag a,af ag b,af ag nn,af ag c0,af ag c1,af ag c2,af ag c3,af ag c4,af ag c5,af ag c6,af ag c7,af ag c8,af ag c9,v] 90)).heap->nU N' M' L' base bw k m ps.length (aj (some ⟨g,0,none⟩) ps.length cl) (PW p bw vb vs) W W'->W'.cell? ⟨bw,0,none⟩= some (aj (some ⟨g,0,none⟩) ps.length cl)/\W'.cell? ⟨w.heap.size,0,none⟩= some (af ag kd)/\W'.cell? ⟨w.heap.size,1,none⟩= some (af ag on)/\W'.cell? ⟨w.heap.size,2,none⟩= some (af ag a)/\W'.cell? ⟨w.heap.size,3,none⟩= some (af ag b)/\W'.cell? ⟨w.heap.size,4,none⟩= some (af ag nn)/\W'.cell? ⟨w.heap.size,5,none⟩= some (af ag c0)/\W'.cell? ⟨w.heap.size,6,none⟩= some (af ag c1)/\W'.cell? ⟨w.heap.size,7,none⟩= some (af ag c2)/\W'.cell? ⟨w.heap.size,8,none⟩= some (af ag c3)/\W'.cell? ⟨w.heap.size,9,none⟩= some (af ag c4)/\W'.cell? ⟨w.heap.size,10,none⟩= some (af ag c5)/\W'.cell? ⟨w.heap.size,11,none⟩= some (af ag c6)/\W'.cell? ⟨w.heap.size,12,none⟩= some (af ag c7)/\W'.cell? ⟨w.heap.size,13,none⟩= some (af ag c8)/\W'.cell? ⟨w.heap.size,14,none⟩= some (af ag c9)/\W'.cell? ⟨w.heap.size,15,none⟩= some v/\W'.cell? ⟨g,j*2,none⟩= some (ai (some ⟨p.sb,0,none⟩))/\W'.cell? ⟨g,j*2+1,none⟩= some (ai (some ⟨p.rb,0,none⟩))):=by
  intro W W' hW hO;obtain⟨⟨k',m',Ck,lm,rS,xg,Zc,_,_,_,hL⟩,hc⟩:=hO;have sY:∀i,W'.cell? ⟨w.heap.size,i,none⟩=(w.alloc (.cells #[af ag kd,af ag on,af ag a,af ag b,af ag nn,af ag c0,af ag c1,af ag c2,af ag c3,af ag c4,af ag c5,af ag c6,af ag c7,af ag c8,af ag c9,v] 90)).cell? ⟨w.heap.size,i,none⟩:=fun i=>cF (a:=⟨w.heap.size,i,none⟩) ((hc.block w.heap.size (by rw[hW];simp) (fun e=>Nat.lt_irrefl _ (hPF _ e))).trans (by rw[hW]))
  have hgx:∀i,W'.cell? ⟨g,i,none⟩=(w.alloc (.cells #[af ag kd,af ag on,af ag a,af ag b,af ag nn,af ag c0,af ag c1,af ag c2,af ag c3,af ag c4,af ag c5,af ag c6,af ag c7,af ag c8,af ag c9,v] 90)).cell? ⟨g,i,none⟩:=fun i=>cF (a:=⟨g,i,none⟩) ((hc.block g (by rw[hW];exact Fq) ZR).trans (by rw[hW]))
  have hz:=DZ.out;simp only[sY,hgx];exact⟨by simp[aX,hL.wl.i_],hz.2⟩
 have ab7:=gE (h.abT Z4);clear s1 s2 kE Z4 hj hPF Sh ZR Fq acd;clear hS hb h;obtain⟨_,r0,r1,r2,r3,r4,r5,r6,r7,r8,r9,r10,r11,r12,r13,r14,r15,_,_⟩:=DZ.out;have ad3:=Ca.1;have ad4:=Ca.2;go_enter func35,ntmps35;go_wp2_with fail
 go_region_held3 (fun w'=>w'.cell? ⟨bw,0,none⟩= some (aj (some ⟨g,0,none⟩) ps.length cl)/\w'.cell? ⟨w.heap.size,0,none⟩= some (af ag kd)/\w'.cell? ⟨w.heap.size,1,none⟩= some (af ag on)/\w'.cell? ⟨w.heap.size,2,none⟩= some (af ag a)/\w'.cell? ⟨w.heap.size,3,none⟩= some (af ag b)/\w'.cell? ⟨w.heap.size,4,none⟩= some (af ag nn)/\w'.cell? ⟨w.heap.size,5,none⟩= some (af ag c0)/\w'.cell? ⟨w.heap.size,6,none⟩= some (af ag c1)/\w'.cell? ⟨w.heap.size,7,none⟩= some (af ag c2)/\w'.cell? ⟨w.heap.size,8,none⟩= some (af ag c3)/\w'.cell? ⟨w.heap.size,9,none⟩= some (af ag c4)/\w'.cell? ⟨w.heap.size,10,none⟩= some (af ag c5)/\w'.cell? ⟨w.heap.size,11,none⟩= some (af ag c6)/\w'.cell? ⟨w.heap.size,12,none⟩= some (af ag c7)/\w'.cell? ⟨w.heap.size,13,none⟩= some (af ag c8)/\w'.cell? ⟨w.heap.size,14,none⟩= some (af ag c9)/\w'.cell? ⟨w.heap.size,15,none⟩= some v/\w'.cell? ⟨g,j*2,none⟩= some (ai (some ⟨p.sb,0,none⟩))/\w'.cell? ⟨g,j*2+1,none⟩= some (ai (some ⟨p.rb,0,none⟩))) (first|assumption|go_keep) (first
  |(go_at_call 64;refine(HPk.out _).mono ?_;rintro e w' ⟨rfl,rfl⟩)
  |(go_at_call 63;refine(HSv.out _ (gK HB.out 1)).mono ?_;rintro e w9 ⟨rfl,hO⟩;have hk9:=Zx.out _ w9 (by rfl) hO))
 clear hk9;have HO:=gE ((hO.pre (gK HB.out 1)).step ab7.out);clear hO;go_wp2_with fail;go_ret;exact⟨rfl,HO.out⟩
def uj(N:Nat)(M L:Int)(base bw k m n:Nat)(r:Prop)(w w':World):Prop:=(∃k' m' lv vb vs iq gX ps,k'<=k+4004/\m'<=m+4/\ps.length<=n+1/\n<=ps.length/\(r->0<ps.length)/\jY N M L w' base bw k' m' lv vb vs iq gX ps)/\ip (vX base bw) w w'
theorem th.r{r:Prop}(h:th N M L base bw k m n w w')(hr:r->0<n):uj N M L base bw k m n r w w':=by
 obtain⟨⟨k',m',lv,vb,vs,iq,gX,ps,h1,h2,h3,h4,h5⟩,hc⟩:=h;exact⟨⟨k',m',lv,vb,vs,iq,gX,ps,h1,h2,h3,h4,fun e=>cq (hr e) h4,h5⟩,hc⟩
theorem uj.mono{N':Nat}{M' L':Int}{r:Prop}(h:uj N M L base bw k m n r w w')(hN:N<=N')(hM:M<=M')(hL:L<=L'):uj N' M' L' base bw k m n r w w':=by
 obtain⟨⟨k',m',lv,vb,vs,iq,gX,ps,h1,h2,h3,h4,h5,h6⟩,hc⟩:=h;exact⟨⟨k',m',lv,vb,vs,iq,gX,ps,h1,h2,h3,h4,h5,h6.mono hN hM hL⟩,hc⟩
theorem uj.pre{r:Prop}{w0:World}(h:uj N M L base bw k m n r w0 w')(hb:Below w.heap.size w w0):uj N M L base bw k m n r w w':=⟨h.1,(ip.gS hb).trans h.2⟩
theorem jY.uM(h:jY N M L w base bw k m lv vb vs iq gX ps)(hp:md base bw lv vb vs k m gX w w'):th N M L base bw k m ps.length w w':=by
 obtain⟨k',Ck,rS,hk,hl⟩:=h.plain hp
 exact⟨⟨k',m,lv,Ck,vs,rS,gX,ps,by omega,by omega,by omega,ay _,hl⟩,hp.2.mono fun q _ e=>by
  rcases e with e|e
  ·exact a_ e
  ·exact aV (ph h.wl.tJ e)⟩
def wm(B:Nat)(w:World)(ps:List jj)(v:Value):Prop:=v=aj none 0 0\/∃ad cap l,∃Z:Nat->Prop,v=aj (some ad) l.length cap/\l.length<=B/\xM Z w v l/\∀q,Z q->q<w.heap.size/\∀(i:Nat) p,ps[i]? =some p->¬p.F q
theorem wm.below(h:wm B w ps v)(hb:Below w.heap.size w w'):wm B w' ps v:=by
 rcases h with h|⟨ad,cap,l,Z,e,hl,hr,hz⟩
 ·exact a_ h
 ·exact aV ⟨ad,cap,l,Z,e,hl,hr.below hb,fun q hq=>⟨cq (hz q hq).1 hb.size,(hz q hq).2⟩⟩
theorem DA{kd on b nn c0 c1 c2 c3 c4 c5 c6 c7 c8 c9:Int}{r:Prop}(h1:1<=kd)(h5:kd<=5)
  (HP:Calls ae 62 #[ai (some ⟨bw,0,none⟩),.agg #[af ag kd,af ag on,af ag a,af ag b,af ag nn,af ag c0,af ag c1,af ag c2,af ag c3,af ag c4,af ag c5,af ag c6,af ag c7,af ag c8,af ag c9,v]] (w.alloc (.cells #[af ag kd,af ag on,af ag a,af ag b,af ag nn,af ag c0,af ag c1,af ag c2,af ag c3,af ag c4,af ag c5,af ag c6,af ag c7,af ag c8,af ag c9,v] 90)) fun e w'=>e=.returned (.bool true)/\uj N M L base bw k m n r (w.alloc (.cells #[af ag kd,af ag on,af ag a,af ag b,af ag nn,af ag c0,af ag c1,af ag c2,af ag c3,af ag c4,af ag c5,af ag c6,af ag c7,af ag c8,af ag c9,v] 90)) w'):
  Calls ae 35 #[ai (some ⟨bw,0,none⟩),.agg #[af ag kd,af ag on,af ag a,af ag b,af ag nn,af ag c0,af ag c1,af ag c2,af ag c3,af ag c4,af ag c5,af ag c6,af ag c7,af ag c8,af ag c9,v]] w fun e w'=>e=.returned (.bool true)/\uj N M L base bw k m n r w w':=by
 have HH:=gE HP;clear HP;go_enter func35,ntmps35;go_wp2_with fail;refine HH.out.mono ?_;rintro e w1 ⟨rfl,hO⟩;clear HH;have HO:=gE (hO.pre (gH w _));clear hO;go_wp2_with fail;go_ret;exact⟨rfl,HO.out⟩
theorem Qn(kd on a b nn c0 c1 c2 c3 c4 c5 c6 c7 c8 c9:Int)(v:Value)(N:Nat)(M L:Int)(base bw k m:Nat)(lv vb vs:Value)(iq gX:List Value)(ps:List jj)(w:World)(h:jY N M L w base bw k m lv vb vs iq gX ps)(hk:kd<1):
  Calls ae 35 #[ai (some ⟨bw,0,none⟩),.agg #[af ag kd,af ag on,af ag a,af ag b,af ag nn,af ag c0,af ag c1,af ag c2,af ag c3,af ag c4,af ag c5,af ag c6,af ag c7,af ag c8,af ag c9,v]] w fun e w'=>e=.returned (.bool true)/\th N M L base bw k m ps.length w w':=by
 have hb:=gH w (.cells #[af ag kd,af ag on,af ag a,af ag b,af ag nn,af ag c0,af ag c1,af ag c2,af ag c3,af ag c4,af ag c5,af ag c6,af ag c7,af ag c8,af ag c9,v] 90);have HO:=gE ((h.below hb).out rfl (ip.gS hb));clear h hb;go_enter func35,ntmps35;go_wp2_with fail;go_ret;exact⟨rfl,HO.out⟩
theorem Tv(kd on a b nn c0 c1 c2 c3 c4 c5 c6 c7 c8 c9:Int)(v:Value)(N:Nat)(M L:Int)(base bw k m:Nat)(lv vb vs:Value)(iq gX:List Value)(ps:List jj)(w:World)(h:jY N M L w base bw k m lv vb vs iq gX ps)(hE:∀W,ip (vX base bw) w W->Env W)(hv:wm 1048576 w ps v)(hkd:kd<=10)(Ca:-9223372036854775808<=on/\on<=9223372036854775807)(ha:-9223372036854775808<=a/\a<=9223372036854775807)
  (hN:N<=2000000000000) (hM:0<=M/\M<=2000000000000) (hL:0<=L/\L<=2000000000000) (hk:k<=4000000000000) (hm:m<=4000000000000) (hn:ps.length<=1000000000):
  Calls ae 35 #[ai (some ⟨bw,0,none⟩),.agg #[af ag kd,af ag on,af ag a,af ag b,af ag nn,af ag c0,af ag c1,af ag c2,af ag c3,af ag c4,af ag c5,af ag c6,af ag c7,af ag c8,af ag c9,v]] w fun e w'=>e=.returned (.bool true)/\uj (N+1048577) (M+1048676) (L+2) base bw k m ps.length (kd=5/\(jG.mk c0 c1 c2 c3 c4 c5 c6 c7 c8 c9).right=true) w w':=by
 have up:∀{r:Prop} {W W':World},uj N M L base bw k m ps.length r W W'->uj (N+1048577) (M+1048676) (L+2) base bw k m ps.length r W W':=fun h=>h.mono (by omega) (by omega) (by omega)
 have kf:=gH w (.cells #[af ag kd,af ag on,af ag a,af ag b,af ag nn,af ag c0,af ag c1,af ag c2,af ag c3,af ag c4,af ag c5,af ag c6,af ag c7,af ag c8,af ag c9,v] 90);have h0:=h.below kf;have lE:=h0.tj;by_cases Yl:kd<1
 ·refine(Qn kd on a b nn c0 c1 c2 c3 c4 c5 c6 c7 c8 c9 v N M L base bw k m lv vb vs iq gX ps w h Yl).mono ?_;rintro e w' ⟨rfl,hO⟩;exact⟨rfl,up (hO.r fun e=>by omega)⟩
 by_cases h4:kd<=4
 ·refine DA (by omega) (by omega) ?_;rcases(show kd=1\/kd=2\/kd=3\/kd=4 by omega) with rfl|rfl|rfl|rfl
  ·refine(Ms on a b nn c0 c1 c2 c3 c4 c5 c6 c7 c8 c9 v base bw k lv vb vs m iq gX _ h0.wl lE (by omega)).mono ?_;rintro e w' ⟨rfl,hO⟩;exact⟨rfl,up ((h0.uM hO).r fun e=>by omega)⟩
  ·rcases hv.below kf with rfl|⟨ad,cap,l,Z,rfl,hl,hr,hz⟩
   ·refine(Di on a b nn c0 c1 c2 c3 c4 c5 c6 c7 c8 c9 base bw k lv vb vs m iq gX _ (hE _ (ip.gS kf)) h0.wl).mono ?_;rintro e w' ⟨rfl,hO⟩;exact⟨rfl,up ((h0.uM hO).r fun e=>by omega)⟩
   ·refine(Mr on a b nn c0 c1 c2 c3 c4 c5 c6 c7 c8 c9 ad cap l base bw k lv vb vs m iq gX _ (hE _ (ip.gS kf)) hr.reads h0.wl).mono ?_;rintro e w' ⟨rfl,hO⟩;exact⟨rfl,up ((h0.uM hO).r fun e=>by omega)⟩
  ·refine(GZ on a b nn c0 c1 c2 c3 c4 c5 c6 c7 c8 c9 v base bw k lv vb vs m iq gX _ h0.wl lE (by omega)).mono ?_;rintro e w' ⟨rfl,hO⟩;exact⟨rfl,up ((h0.uM hO).r fun e=>by omega)⟩
  ·refine(GY on a b nn c0 c1 c2 c3 c4 c5 c6 c7 c8 c9 v base bw k lv vb vs m iq gX _ h0.wl).mono ?_;rintro e w' ⟨rfl,hO⟩;exact⟨rfl,up ((h0.uM hO).r fun e=>by omega)⟩
 by_cases h5:kd=5
 ·subst h5;refine DA (by omega) (by omega) ?_;refine(PZ on a b nn ⟨c0,c1,c2,c3,c4,c5,c6,c7,c8,c9⟩ v N M L base bw k m lv vb vs iq gX ps _ h0 hM.1 hL.1 (by omega)).mono ?_;rintro e w' ⟨rfl,⟨iX,Zc,q1,q2,q3,hl⟩,hc⟩;exact⟨rfl,up ⟨⟨k,m,iX,vb,vs,iq,gX,Zc,by omega,by omega,q1,q2,fun e=>q3 e.2,hl⟩,hc⟩⟩
 have Yf:5<kd:=by omega
 rcases Nat.eq_zero_or_pos ps.length with hz|hp
 ·obtain rfl:=List.length_eq_zero_iff.1 hz;refine(Qp kd on a b nn c0 c1 c2 c3 c4 c5 c6 c7 c8 c9 v N M L base bw k m lv vb vs iq gX w h (aV Yf)).mono ?_;rintro e w' ⟨rfl,hO⟩;exact⟨rfl,up (hO.r fun e=>by omega)⟩
 have fin:∀{N':Nat} {M' L':Int},N'<=N+1048577->M'<=M+1048676->L'<=L+2->
   (∀(i:Nat) p,ps[i]? =some p->∀W,Below w.heap.size w W->Calls ae 63 #[ai (some ⟨bw,0,none⟩),.agg #[ai (some ⟨p.sb,0,none⟩),ai (some ⟨p.rb,0,none⟩)],.agg #[af ag kd,af ag on,af ag a,af ag b,af ag nn,af ag c0,af ag c1,af ag c2,af ag c3,af ag c4,af ag c5,af ag c6,af ag c7,af ag c8,af ag c9,v]] W fun e w'=>e=.returned (.bool true)/\nU N' M' L' base bw k m ps.length lv (PW p bw vb vs) W w')->
   Calls ae 35 #[ai (some ⟨bw,0,none⟩),.agg #[af ag kd,af ag on,af ag a,af ag b,af ag nn,af ag c0,af ag c1,af ag c2,af ag c3,af ag c4,af ag c5,af ag c6,af ag c7,af ag c8,af ag c9,v]] w fun e w'=>e=.returned (.bool true)/\uj (N+1048577) (M+1048676) (L+2) base bw k m ps.length (kd=5/\(jG.mk c0 c1 c2 c3 c4 c5 c6 c7 c8 c9).right=true) w w':=by
  intro N' M' L' q1 q2 q3 hS;refine(Kr kd on a b nn c0 c1 c2 c3 c4 c5 c6 c7 c8 c9 v N N' M L M' L' base bw k m lv vb vs iq gX ps w h Yf hp (by omega) Ca hS).mono ?_;rintro e w' ⟨rfl,hO⟩;exact⟨rfl,(hO.r fun e=>by omega).mono q1 q2 q3⟩
 rcases(show kd=6\/kd=7\/kd=8\/kd=9\/kd=10 by omega) with rfl|rfl|rfl|rfl|rfl
 ·rcases hv with rfl|⟨ad,cap,l,Z,rfl,hl,hr,hz⟩
  ·refine fin (N':=N+1) (M':=M+100) (L':=L+2) (by omega) (by omega) (by omega) fun i p hi W hW=>?_
   exact yK on a b nn c0 c1 c2 c3 c4 c5 c6 c7 c8 c9 N M L base bw k m lv vb vs iq gX ps i p W (h.below hW) hi (fun W' Je=>hE W' ((ip.gS hW).trans Je)) hM.1 (by omega) (by omega) (by omega) hk hm
  ·refine fin (N':=N+1+l.length) (M':=M+l.length+100) (L':=L+2) (by omega) (by omega) (by omega) fun i p hi W hW=>?_
   exact Dx on a b nn c0 c1 c2 c3 c4 c5 c6 c7 c8 c9 ad cap l N M L base bw k m lv vb vs iq gX ps i p W (h.below hW) hi (Z:=Z) (fun q hq=>⟨cq (hz q hq).1 hW.size,(hz q hq).2 i p hi⟩) (hr.below hW) (fun W' Je=>hE W' ((ip.gS hW).trans Je)) hM.1 (by omega) (by omega) (by omega) (by omega) hk hm
 ·refine fin (N':=N) (M':=M) (L':=L) (by omega) (by omega) (by omega) fun i p hi W hW=>?_
  by_cases hc:p.s.now<=a/\a<=1000000000
  ·exact G' on a b nn c0 c1 c2 c3 c4 c5 c6 c7 c8 c9 v N M L base bw k m lv vb vs iq gX ps i p W (h.below hW) hi hc
  ·exact AZ on a b nn c0 c1 c2 c3 c4 c5 c6 c7 c8 c9 v N M L base bw k m lv vb vs iq gX ps i p W (h.below hW) hi (by omega)
 ·refine fin (N':=N) (M':=M) (L':=L) (by omega) (by omega) (by omega) fun i p hi W hW=>?_
  exact Ew on a b nn c0 c1 c2 c3 c4 c5 c6 c7 c8 c9 v N M L base bw k m lv vb vs iq gX ps i p W (h.below hW) hi
 ·refine fin (N':=N) (M':=M) (L':=L) (by omega) (by omega) (by omega) fun i p hi W hW=>?_
  exact Ev on a b nn c0 c1 c2 c3 c4 c5 c6 c7 c8 c9 v N M L base bw k m lv vb vs iq gX ps i p W (h.below hW) hi
 ·refine fin (N':=N) (M':=M) (L':=L) (by omega) (by omega) (by omega) fun i p hi W hW=>?_
  exact Ko on a b nn c0 c1 c2 c3 c4 c5 c6 c7 c8 c9 v N M L base bw k m lv vb vs iq gX ps i p W (h.below hW) hi ha
theorem xM.imp{Z':Nat->Prop}(h:xM Z w v l)(hz:∀q,q<w.heap.size->Z q->Z' q):xM Z' w v l:=by
 obtain⟨h1,h2,ao,cap,e,h3,h4,h5,h6⟩:=h;refine⟨h1,h2,ao,cap,e,h3,h4,h5,fun hp=>?_⟩;obtain⟨b,off,e1,hb,hj⟩:=h6 hp
 have jp:b<w.heap.size:=by
  have h0:=hj 0 hp;rcases Nat.lt_or_ge b w.heap.size with h|h
  ·exact h
  ·simp[aX,Array.getElem?_eq_none h]at h0
 exact⟨b,off,e1,hz b jp hb,hj⟩
def oZ(B:Nat)(Z:Nat->Prop)(w:World)(v:Value):Prop:=v=aj none 0 0\/∃ad cap l,v=aj (some ad) l.length cap/\l.length<=B/\xM Z w v l
theorem oZ.law(h:oZ B (fun q=>¬vX base bw q) wA v)(hc:ip (vX base bw) wA wr)(hb:base<=wr.heap.size)(hl:jY N M L wr base bw k m lv vb vs iq gX ps):wm B wr ps v:=by
 rcases h with h|⟨ad,cap,l,e,hB,hr⟩
 ·exact a_ h
 ·refine aV ⟨ad,cap,l,_,e,hB,hr.iO hc (fun q hq=>hq),fun q hq=>⟨?_,fun i p hi hF=>?_⟩⟩
  ·have:¬base<=q:=fun e=>hq (aV e)
   omega
  ·exact hq (aV (hl.low i p q hi hF))
def Nr(x:Int):Prop:=-9223372036854775808<=x/\x<=9223372036854775807
theorem zH(x:Int)(h1:decide (-9223372036854775808<=x)=true)(h2:decide (x<=9223372036854775807)=true):Nr x:=⟨of_decide_eq_true h1,of_decide_eq_true h2⟩
def WH(b:Nat)(W:World):Prop:=W.heap[b]? =some (.cells #[aj none 0 0,aj none 0 0,aj none 0 0] 85 (0,0))/\W.heap[b+1]? =some (.cells #[.int .u8 1,.int .u8 5,.int .u8 0,.int .u8 0,.int .u8 0,.int .u8 0,.int .u8 3,.int .u8 0,.int .u8 0,.int .u8 2,.int .u8 104,.int .u8 105] 5 (0,0))
theorem WH.lt(h:WH b W):b+1<W.heap.size:=(aO.1 h.2).1
theorem WH.BL{W':World}(h:WH b W)(hb:Below B W W')(hB:b+1<B):WH b W':=⟨(hb.block b (by omega)).trans h.1,(hb.block (b+1) hB).trans h.2⟩
theorem WH.rd(h:WH b W):me W (aj (some ⟨b+1,0,none⟩) 12 12) [1,5,0,0,0,0,3,0,0,2,104,105]:=by
 refine⟨by unfold iF;decide,by decide,some ⟨b+1,0,none⟩,12,rfl,by decide,by decide,fun h=>(by cases h),fun _=>⟨b+1,0,_,_,rfl,h.2,fun j hj=>?_⟩⟩;have Jq:j<12:=hj;rcases(show j=0\/j=1\/j=2\/j=3\/j=4\/j=5\/j=6\/j=7\/j=8\/j=9\/j=10\/j=11 by omega) with rfl|rfl|rfl|rfl|rfl|rfl|rfl|rfl|rfl|rfl|rfl|rfl<;>rfl
theorem me.step(h:me W v l)(hW:WH b W)(hb:W.heap.size<=base):xM (fun q=>¬vX base b q) W v l:=
 h.SO.imp fun q hq hz e=>by
  obtain⟨cur,fr,hz⟩:=hz;rcases e with e|e
  ·rw[e,hW.1]at hz;simp at hz
  ·omega
theorem E7(h:Below w.heap.size w wA)(hs:w.heap.size<=base)(hc:ip (vX base w.heap.size) wA wr):Below w.heap.size w wr:=
 ⟨hc.os.trans h.os,hc.tape.trans h.tape,hc.output.trans h.output,cw h.size hc.size,fun i hi=>(hc.block i (cq hi h.size) (fun e=>by rcases e with e|e<;>omega)).trans (h.block i hi)⟩
def Ff:List Int:=[1,6,9]++kr 0 9 4++[4,1,0,1,120]
theorem Jb:iF Ff:=(iF.append (show iF [1,6,9] by unfold iF;decide) (rZ 0 9 4 (by decide) (by decide))).append (show iF [4,1,0,1,120] by unfold iF;decide)
theorem Fg:Ff.length=17:=by decide
theorem PP(h:WH b W):jY 0 0 0 W W.heap.size b 0 0 (aj none 0 0) (aj none 0 0) (aj none 0 0) [] [] []:=
 ⟨⟨h.1,rfl,rfl,aq _ _ _ _,aq _ _ _ _,fun i u hu=>by simp at hu,fun i u hu=>by simp at hu⟩,ay _,aq _ _ _ _,fun i p hp=>by simp at hp,fun i p k hp=>by simp at hp,fun i j p q k _ hp=>by simp at hp⟩
set_option maxRecDepth 20000 in
theorem J5(lZ:List D2)(vs:Value)(w:World)(he:Env w)(hs:Cu w vs lZ)(jR:∀o∈lZ,(Nr o.on/\Nr o.a/\oZ 1048576 (fun _=>True) w o.v)/\o.v.oneCell'=true)(hn:lZ.length<=1048576):
  Calls ae 12 #[vs,af ag 10] w fun e w'=>e=.returned (.bool true)/\Below w.heap.size w w':=by
 obtain⟨i0,hi,mB,kS,ln⟩:=info_parts o4;obtain⟨j0,hj,KR,Pw,Q1⟩:=info_parts Vv;have HE:=gE he;have HS:=gE hs;have HO:=gE jR;clear he hs jR;go_enter func12,ntmps12;go_wp2_with fail
 have F0:Below w.heap.size w ((w.alloc (.cells #[aj none 0 0,aj none 0 0,aj none 0 0] 85)).alloc (.cells #[.int .u8 1,.int .u8 5,.int .u8 0,.int .u8 0,.int .u8 0,.int .u8 0,.int .u8 3,.int .u8 0,.int .u8 0,.int .u8 2,.int .u8 104,.int .u8 105] 5))/\WH w.heap.size ((w.alloc (.cells #[aj none 0 0,aj none 0 0,aj none 0 0] 85)).alloc (.cells #[.int .u8 1,.int .u8 5,.int .u8 0,.int .u8 0,.int .u8 0,.int .u8 0,.int .u8 3,.int .u8 0,.int .u8 0,.int .u8 2,.int .u8 104,.int .u8 105] 5)):=by
  refine⟨(gH w _).alloc (by simp) _,?_,?_⟩
  ·rw[Below.heap_alloc _ _ _ (by simp)];exact heap_alloc_last w _
  ·have:=heap_alloc_last (w.alloc (.cells #[aj none 0 0,aj none 0 0,aj none 0 0] 85)) (.cells #[.int .u8 1,.int .u8 5,.int .u8 0,.int .u8 0,.int .u8 0,.int .u8 0,.int .u8 3,.int .u8 0,.int .u8 0,.int .u8 2,.int .u8 104,.int .u8 105] 5);simpa using this
 generalize (w.alloc (.cells #[aj none 0 0,aj none 0 0,aj none 0 0] 85)).alloc (.cells #[.int .u8 1,.int .u8 5,.int .u8 0,.int .u8 0,.int .u8 0,.int .u8 0,.int .u8 3,.int .u8 0,.int .u8 0,.int .u8 2,.int .u8 104,.int .u8 105] 5)=W0 at F0⊢;obtain⟨kf,WQ⟩:=F0;refine(FN W0).mono ?_;rintro e w1 ⟨rfl,im⟩;have wH:=gI kf im;have sk:=WQ.BL im WQ.lt;have HW:=gE sk;clear kf WQ im sk;go_wp2_with fail;refine(Dl 2 16 8 2 2 1 10 5 1000 0 9 4 w1).mono ?_;rintro e w2 ⟨vt,rfl,je,iT⟩;rw[Qv]at je;have oL:=gI wH iT;have uf:=HW.out.BL iT HW.out.lt;have TP:=gE uf;obtain⟨gt,ct,rfl,acH,acI,acJ⟩:=jP je (by decide);have HT:=gE je;clear iT uf je HW wH;have Cd:w.heap.size<=w2.heap.size:=oL.size;go_wp2_with (at_builtin;refine wpList_append_own _ rfl _ _ 44 rfl w2.heap.size 5 i0 (.int .u8 0) 1 1 underlying44 hi mB kS ln rfl (by decide) (aj (some ⟨w2.heap.size,0,none⟩) 3 3) 3 (U8 [1,6,9]) rfl (o5 w2 5 (U8 [1,6,9]) (by decide)) ⟨gt,0,none⟩ (kr 0 9 4).length ct (U8 (kr 0 9 4)) rfl (by rw[jM];simp) ((iB HT.out (gH w2 _)).cells rfl) (pm _) (by decide) (by decide) (by simp) ?_;intro v3 w3 lk qa _;refine Hid.out ?_);refine gE ?_;have mw:Below w2.heap.size w2 w3:=(gH w2 _).grown qa (by simp) (fun g hg=>by simp[Value.ownBlock]at hg;omega);have Av:=gI oL mw;have HW3:=gE (TP.out.BL mw TP.out.lt);have YI:w2.heap.size<=w3.heap.size:=mw.size;have abl:w.heap.size+1<w2.heap.size:=TP.out.lt;clear qa TP HT acH acI acJ oL;go_wp2_with (at_builtin;refine wpList_append_own _ rfl _ _ 44 rfl w2.heap.size 5 i0 (.int .u8 0) 1 1 underlying44 hi mB kS ln rfl (by decide) v3 _ _ rfl (lk.alloc _) ⟨w3.heap.size,0,none⟩ 5 5 (U8 [4,1,0,1,120]) rfl rfl (iZ w3 5 (U8 [4,1,0,1,120]) (by decide)) (pm _) (by decide) (by decide) (by simp;omega) ?_;intro v4 w4 ki Fp _;refine Hid.out ?_);refine gE ?_;have vK:Below w2.heap.size w3 w4:=((gH w3 _).mono YI).grown Fp (by simp;omega) (fun g hg=>(lk.lt g hg).1);have Jf:Below w.heap.size w w4:=Av.trans (vK.mono Cd);have HW4:=gE (HW3.out.BL vK abl);have sJ:me w4 v4 Ff:=me.vw (l:=Ff) (ki) Jb (by rw[Fg];omega);obtain⟨a4,c4,rfl⟩:=i7 ki;have Rc:Hid (me w4 (.slice a4 17 c4) Ff):=sJ;clear sJ;clear Fp vK HW3 lk mw Av ki;go_wp2_with fail;refine(FN w4).mono ?_;rintro e w5 ⟨rfl,wG⟩;have XU:=gI Jf wG;have XB:=gE (HW4.out.BL wG HW4.out.lt);have aam:=gE (Rc.out.below wG);clear HW4 wG Jf Rc;go_wp2_with (refine BW rfl 22 90 8 _ rfl _ rfl (um (aj (some ⟨w.heap.size+1,0,none⟩) 12 12) (.slice a4 17 c4)) j0 _ 16 Pw underlying22 hj KR (by decide) (by decide) (by kernel_rfl) ?_;refine Hid.out ?_);refine gE ?_;have Ce:=XB.out.lt;have hs5:w.heap.size<w5.heap.size:=by omega
 generalize hhV:(cX (some ⟨w.heap.size+1,0,none⟩) 12 12)=hV;generalize hgV:(cX a4 17 c4)=gV;have hbA:=XU.alloc (dS hs5) (.cells (um hV gV) 90);have aas:=gE (HS.out.src hbA);have Oh:=gE (VE w5 w5.heap.size (ay _) hV gV);have KZ:=gE (IL fun o ho=>(HO.out o ho).2);go_wp2_with (at_builtin;refine Aa rfl _ _ 22 rfl w5.heap.size 90 j0 _ 16 144 underlying22 hj KR Pw Q1 rfl (by decide) (aj (some ⟨w5.heap.size,0,none⟩) 8 8) 8 (cellsOf (oI hV gV)) rfl Oh.out vs lZ.length (cellsOf lZ) rfl aas.out (sC lZ) KZ.out (by unfold maxLen;omega) (by omega) (by simp) ?_;intro vA wA Jz hgA;refine Hid.out ?_);refine gE ?_;have hA5:Below w5.heap.size w5 wA:=(gH w5 _).grown hgA (by simp) (fun g hg=>by simp[Value.ownBlock]at hg;omega);have XS:=gI XU hA5;have HWA:=gE (XB.out.BL hA5 Ce);have aan:=gE (aam.out.below hA5);have hsA:w5.heap.size<=wA.heap.size:=hA5.size;obtain⟨gA,cA,rfl,adT,acD,acE⟩:=Mp Jz (by omega);rw[<-CE]at Jz;have i8:(oI hV gV++lZ).length=8+lZ.length:=by simp[oI];omega
 have aap:Hid (∀o∈oI hV gV++lZ,o.kd<=10->Nr o.on/\Nr o.a/\oZ 1048576 (fun q=>¬vX wA.heap.size w.heap.size q) wA o.v):=by
  intro o ho hk;rcases List.mem_append.1 ho with h|h
  ·simp only[oI,cI,dy,or_false]at h;rcases h with rfl|rfl|rfl|rfl|rfl|rfl|rfl|rfl
   ·exact⟨zH _ rfl rfl,zH _ rfl rfl,a_ rfl⟩
   ·exact⟨zH _ rfl rfl,zH _ rfl rfl,a_ rfl⟩
   ·refine⟨zH _ rfl rfl,zH _ rfl rfl,aV ⟨⟨w.heap.size+1,0,none⟩,12,[1,5,0,0,0,0,3,0,0,2,104,105],hhV.symm,by decide,?_⟩⟩;rw[<-hhV];exact HWA.out.rd.step HWA.out (ay _)
   ·have hr:=aan.out.step HWA.out (ay _);have h17:=Fg;obtain⟨_,_,ao,cap,e,_,_,vL,_⟩:=id hr;rw[h17]at e;simp only[Value.slice.injEq,true_and]at e;obtain⟨rfl,rfl⟩:=e
    cases a4 with
    |none=>
     exfalso
     obtain⟨_,_,ao,cap,e,uV,_,_,_⟩:=id hr;rw[h17]at e uV;simp only[Value.slice.injEq,true_and]at e;obtain⟨rfl,rfl⟩:=e;have:=vL rfl;omega
    |some ad=>exact⟨zH _ rfl rfl,zH _ rfl rfl,aV ⟨ad,c4,Ff,by rw[h17];exact hgV.symm,by rw[h17];omega,by rw[<-hgV];exact hr⟩⟩
   ·exact⟨zH _ rfl rfl,zH _ rfl rfl,a_ rfl⟩
   ·exact⟨zH _ rfl rfl,zH _ rfl rfl,a_ rfl⟩
   ·exact⟨zH _ rfl rfl,zH _ rfl rfl,a_ rfl⟩
   ·exact absurd hk (by decide)
  ·obtain⟨⟨h1,h2,h3⟩,_⟩:=HO.out o h;refine⟨h1,h2,?_⟩;rcases h3 with h3|⟨ad,cap,l,e,hl,hr⟩
   ·exact a_ h3
   ·exact aV ⟨ad,cap,l,e,hl,(hr.imp (Z':=fun q=>¬vX wA.heap.size w.heap.size q) fun q hq _ e=>by rcases e with e|e<;>omega).below XS⟩
 have aal:Hid (∀(k:Nat) o,(oI hV gV++lZ)[k]? =some o->(k=0->o.kd≠5)/\(k=1->o.kd=5/\(jG.mk o.c0 o.c1 o.c2 o.c3 o.c4 o.c5 o.c6 o.c7 o.c8 o.c9).right=true)):=by
  intro k o ho;refine⟨fun e=>?_,fun e=>?_⟩
  ·subst e;simp only[oI,List.cons_append,cz,Option.some.injEq]at ho;subst ho
   decide
  ·subst e;simp only[oI,List.cons_append,cz,cB,Option.some.injEq]at ho;subst ho;exact⟨rfl,by decide⟩
 clear hhV hgV;generalize oI hV gV++lZ=Ld at Jz i8 aap aal
 have aaf:Hid (∀k o,Ld[k]? =some o->∀j,j<16->wA.cell? ⟨gA,k*16+j,none⟩= o.cells[j]?):=by
  intro k o hk j hj;obtain⟨Vf,rfl⟩:=bm.1 hk;rw[World.ownsRow.cellAt Jz (k*16+j) (by omega),CF Ld k Vf j hj]
 have ab6:=gE (PP HWA.out);clear Jz hgA Oh aas KZ HO HS XB hA5 XU hbA acE abl YI Cd aam aan HWA Ce;have QU:8+lZ.length<=1048584:=by omega
 generalize 8+lZ.length=N at i8 QU⊢;have HL:=gE i8;clear i8 hn KR Pw Q1 hj mB kS ln hi;go_wp2_with fail
 go_loopw [11] (fun i wr=>∃k:Nat,k<=N/\i=af ag k/\∃K m lv vb vs iq gX ps,K<=4004*k/\m<=4*k/\ps.length<=k/\(2<=k->0<ps.length)/\jY (1048577*k) (1048676*(k:Int)) (2*(k:Int)) wr wA.heap.size w.heap.size K m lv vb vs iq gX ps/\ip (vX wA.heap.size w.heap.size) wA wr) (fun i _=>N-(intOf i).toNat)
 case atStart=>exact⟨0,Nat.zero_le _,rfl,0,0,_,_,_,_,_,[],ay _,ay _,ay _,fun h=>absurd h (by decide),ab6.out,ip.refl _ _⟩
 case round=>
  obtain⟨k,hk,rfl,K,m,lv,vb,lm,iq,gX,ps,hK,hm,hps,qu,m_,Js⟩:=hrel;have HI:=gE m_;have HK:=gE Js;have HSm:=gE qu;clear m_ Js qu;by_cases jp:k<N
  ·obtain⟨o,ho⟩:∃o,Ld[k]? =some o:=⟨_,am (by rw[HL.out];exact jp)⟩;have js:gA≠w.heap.size:=by omega
   have jR:=aap.out o (bT ho);have X8:=aal.out k o ho
   have HQ:Hid (∀wr',ip (vX wA.heap.size w.heap.size) wA wr'->∀j,j<16->wr'.cell? ⟨gA,k*16+j,none⟩= o.cells[j]?):=
    fun wr' Vf j hj=>(cF (a:=⟨gA,k*16+j,none⟩) (Vf.block gA acD (fun e=>by rcases e with e|e<;>omega))).trans (aaf.out k o ho j hj)
   obtain⟨kd,on,a,b,nn,c0,c1,c2,c3,c4',c5,c6,c7,c8,c9,v⟩:=o;have q:=HQ.out wr HK.out;have p0:=q 0 (by decide);have p1:=q 1 (by decide);have p2:=q 2 (by decide);have p3:=q 3 (by decide);have p4:=q 4 (by decide);have p5:=q 5 (by decide);have p6:=q 6 (by decide);have p7:=q 7 (by decide);have p8:=q 8 (by decide);have p9:=q 9 (by decide);have p10:=q 10 (by decide);have p11:=q 11 (by decide);have p12:=q 12 (by decide);have p13:=q 13 (by decide);have p14:=q 14 (by decide);have p15:=q 15 (by decide);simp only[D2.cells,cz,cB,Nat.add_zero]at p0 p1 p2 p3 p4 p5 p6 p7 p8 p9 p10 p11 p12 p13 p14 p15;simp only at jR X8;have HOK:=gE jR;have HFx:=gE X8;clear ho q jR X8;by_cases hkd:10<kd
   ·go_wp2_with fail
    go_roundw
    case rel=>exact⟨k+1,by omega,by go_num,K,m,lv,vb,lm,iq,gX,ps,by omega,by omega,by omega,fun h=>HSm.out (by
     rcases Nat.lt_or_ge k 2 with h2|h2
     ·have:=(HFx.out.2 (by omega)).1;omega
     ·exact h2),HI.out.mono (by omega) (by omega) (by omega),HK.out⟩
    case measure=>simp[intOf];omega
   ·have NM:kd<=10:=by omega
    have tH:=gE (Tv kd on a b nn c0 c1 c2 c3 c4' c5 c6 c7 c8 c9 v (1048577*k) (1048676*(k:Int)) (2*(k:Int)) wA.heap.size w.heap.size K m lv vb lm iq gX ps wr HI.out (fun W hW=>HE.out.below (E7 XS (cw (dS hs5) hsA) (HK.out.trans hW))) ((HOK.out NM).2.2.law HK.out HI.out.tj HI.out) NM (HOK.out NM).1 (HOK.out NM).2.1 (by omega) ⟨by omega,by omega⟩ ⟨by omega,by omega⟩ (by omega) (by omega) (by omega));go_wp2_with fail;refine tH.out.mono ?_;rintro e w6 ⟨rfl,⟨K6,m6,lv6,vb6,vs6,Kz,DC,ps6,q1,q2,q3,q4,q5,m_⟩,Js⟩;have HK6:=gE (HK.out.trans Js)
    have Sy:2<=k+1->0<ps6.length:=fun h2=>by
     by_cases h3:2<=k
     ·have:=HSm.out h3;omega
     ·exact q5 (HFx.out.2 (by omega))
    have pA:kd=5->0<ps6.length:=fun h5=>Sy (by
     rcases Nat.eq_zero_or_pos k with h0|h0
     ·exact absurd h5 (HFx.out.1 h0)
     ·omega)
    have HI6:=gE (m_.mono (N':=1048577*(k+1)) (M':=1048676*((k+1:Nat):Int)) (L':=2*((k+1:Nat):Int)) (by omega) (by omega) (by omega));obtain⟨al,cl,Fs⟩:=iA m_.yz;subst Fs;have qs:w6.cell? ⟨w.heap.size,0,none⟩= some (.slice al ps6.length cl):=by simp[aX,m_.wl.i_]
    have p:=HQ.out w6 HK6.out 0 (by decide);simp only[D2.cells,cz,Nat.add_zero]at p;have KH:=gE (Mg wA.heap.size w.heap.size K6 m6 _ vb6 vs6 Kz DC w6 m_.wl (by omega) (by omega));clear m_ Js p0 p1 p2 p3 p4 p5 p6 p7 p8 p9 p10 p11 p12 p13 p14 p15 HK HI HOK HQ tH HSm HFx q5;by_cases h5:kd=5
    ·have C3:((ps6.length:Int)==0)=false:=beq_eq_false_iff_ne.2 (by have:=pA h5;omega);subst h5;clear pA;go_wp2_with fail;refine KH.out.mono ?_;rintro e w7 ⟨rfl,rfl⟩;go_wp2_with fail
     go_roundw
     case rel=>exact⟨k+1,by omega,by go_num,K6,m6,_,vb6,vs6,Kz,DC,ps6,by omega,by omega,by omega,Sy,HI6.out,HK6.out⟩
     case measure=>simp[intOf];omega
    ·have Yf:(kd==5)=false:=beq_eq_false_iff_ne.2 h5;clear pA;go_wp2_with fail;refine KH.out.mono ?_;rintro e w7 ⟨rfl,rfl⟩;go_wp2_with fail
     go_roundw
     case rel=>exact⟨k+1,by omega,by go_num,K6,m6,_,vb6,vs6,Kz,DC,ps6,by omega,by omega,by omega,Sy,HI6.out,HK6.out⟩
     case measure=>simp[intOf];omega
  ·obtain rfl:k=N:=by omega
   go_wp2_with fail;go_ret;exact⟨rfl,E7 XS (cw (dS hs5) hsA) HK.out⟩
theorem Rt{H:Type}(d:DataW H):1<=Rows.uptoBulk d:=by
 unfold Rows.uptoBulk
 split<;>omega
theorem Cz{H:Type}:∀l:List (DataW H),l.length<=Rows.uptoBulkAll l
 |[]=>Nat.zero_le _
 |d::r=>by
  have h1:=Rt d;have h2:=Cz r;simp only[Rows.uptoBulkAll,cK];omega
theorem CA{H:Type}{d:DataW H}:∀{l:List (DataW H)},d∈l->Rows.uptoBulk d<=Rows.uptoBulkAll l
 |x::l,hd=>by
  simp only[Rows.uptoBulkAll];rcases cI.1 hd with rfl|h
  ·omega
  ·have:=CA h;omega
section
variable {H:Type}{enc:TypeId×Value->H}{w:World}{spare:Nat->Bool}{held:Bool}
theorem zJ{n:Nat}{x:Value}{xs:List (DataW H×List MemPlace)}{i:Nat}(hi:i<xs.length)(h:aK enc ae w 0 spare held n 3 [x]=xs[i]?):∃c,x=af ag c/\Nr c:=by
 rw[am hi]at h;obtain⟨c,e,_,YS⟩:=DataW.trod_int underlying3 h;simp only[List.cons.injEq,and_true]at e;exact⟨c,e,bounds_i64 YS⟩
theorem CB{n:Nat}{v:Value}{y:DataW H×List MemPlace}(h:aK enc ae w 0 spare held n 44 [v]=some y)(hw:Rows.uptoBulk y.1<=1048576):oZ 1048576 (fun _=>True) w v/\v.oneCell'=true:=by
 rcases open_ints underlying44 underlying5 XG h with⟨lF,_⟩|⟨a,len,cap,zs,lF,_,hl,T8,hz,hx,jk,hwz⟩
 ·simp only[List.cons.injEq,and_true]at lF;subst lF;exact⟨a_ rfl,rfl⟩
 ·simp only[List.cons.injEq,and_true]at lF;subst lF;have hlz:len<=zs.length:=by rw[hz];split<;>omega
  have i8:(zs.take len).length=len:=by rw[List.length_take];omega
  have uV:len<=1048576:=by
   rw[hx]at hw;simp only[Rows.uptoBulk]at hw;have:=Cz (lits (H:=H) .u8 (zs.take len));simp only[lits,List.length_map,i8]at this hw;omega
  refine⟨aV ⟨a,cap,zs.take len,by rw[i8],by rw[i8];exact uV,?_⟩,rfl⟩;refine⟨fun x NU=>?_,by rw[i8];omega,some a,cap,by rw[i8],by rw[i8];exact hl,by unfold maxLen at T8;omega,fun h=>(by cases h),fun hp=>?_⟩
  ·have:=bounds_u8 (hwz x (List.mem_of_mem_take NU));omega
  ·rw[i8]at hp;obtain⟨b,off,rfl,hc⟩:=ints_at jk (by omega);refine⟨b,off,rfl,trivial,fun j hj=>?_⟩;rw[i8]at hj;rw[hc j (by omega)];simp[List.getD,hj]
theorem JX{n:Nat}{cs:List Value}{x:DataW H×List MemPlace}(h:aK enc ae w 0 spare held n 90 cs=some x)(hw:Rows.uptoBulk x.1<=1048576):
  ∃o:D2,cs=o.cells/\(Nr o.on/\Nr o.a/\oZ 1048576 (fun _=>True) w o.v)/\o.v.oneCell'=true:=by
 obtain⟨xs,m,_,rfl,hl,i8,hf⟩:=DataW.trod_struct underlying90 h;have Bc:xs.length=7:=i8;rw[Nw]at hl;obtain⟨x0,x1,x2,x3,x4,x5,x6,x7,x8,x9,Ud,Ue,Uf,Ug,Uh,QE,rfl⟩:=abL hl;have g0:aK enc ae w 0 spare held m 3 ((aR 0 [x0,x1,x2,x3,x4,x5,x6,x7,x8,x9,Ud,Ue,Uf,Ug,Uh,QE]).take (ae.cellsOf 3))=xs[0]?:=hf 0 _ rfl;rw[pI]at g0;obtain⟨c0,rfl⟩:=kQ (xs:=xs) (i:=0) (by omega) (by simpa using g0);have g1:aK enc ae w 0 spare held m 3 ((aR 1 [af ag c0,x1,x2,x3,x4,x5,x6,x7,x8,x9,Ud,Ue,Uf,Ug,Uh,QE]).take (ae.cellsOf 3))=xs[1]?:=hf 1 _ rfl;rw[pI]at g1;obtain⟨c1,rfl,km⟩:=zJ (xs:=xs) (i:=1) (by omega) (by simpa using g1);have g2:aK enc ae w 0 spare held m 3 ((aR 2 [af ag c0,af ag c1,x2,x3,x4,x5,x6,x7,x8,x9,Ud,Ue,Uf,Ug,Uh,QE]).take (ae.cellsOf 3))=xs[2]?:=hf 2 _ rfl;rw[pI]at g2;obtain⟨c2,rfl,nr⟩:=zJ (xs:=xs) (i:=2) (by omega) (by simpa using g2);have g3:aK enc ae w 0 spare held m 3 ((aR 3 [af ag c0,af ag c1,af ag c2,x3,x4,x5,x6,x7,x8,x9,Ud,Ue,Uf,Ug,Uh,QE]).take (ae.cellsOf 3))=xs[3]?:=hf 3 _ rfl;rw[pI]at g3;obtain⟨c3,rfl⟩:=kQ (xs:=xs) (i:=3) (by omega) (by simpa using g3);have g4:aK enc ae w 0 spare held m 3 ((aR 4 [af ag c0,af ag c1,af ag c2,af ag c3,x4,x5,x6,x7,x8,x9,Ud,Ue,Uf,Ug,Uh,QE]).take (ae.cellsOf 3))=xs[4]?:=hf 4 _ rfl;rw[pI]at g4;obtain⟨c4,rfl⟩:=kQ (xs:=xs) (i:=4) (by omega) (by simpa using g4);have h5:aK enc ae w 0 spare held m 26 ((aR 5 [af ag c0,af ag c1,af ag c2,af ag c3,af ag c4,x5,x6,x7,x8,x9,Ud,Ue,Uf,Ug,Uh,QE]).take (ae.cellsOf 26))=xs[5]?:=hf 5 _ rfl;rw[Nv,am (by omega)]at h5;obtain⟨d0,d1,d2,d3,d4,d5,d6,d7,d8,d9,e5⟩:=IM h5;simp only[List.drop_succ_cons,List.drop_zero,List.take_succ_cons,List.take_zero,List.cons.injEq,and_true]at e5;obtain⟨rfl,rfl,rfl,rfl,rfl,rfl,rfl,rfl,rfl,rfl⟩:=e5;have h6:aK enc ae w 0 spare held m 44 ((aR 15 [af ag c0,af ag c1,af ag c2,af ag c3,af ag c4,af ag d0,af ag d1,af ag d2,af ag d3,af ag d4,af ag d5,af ag d6,af ag d7,af ag d8,af ag d9,QE]).take (ae.cellsOf 44))=xs[6]?:=hf 6 _ rfl;rw[UI,am (by omega)]at h6;have h6':aK enc ae w 0 spare held m 44 [QE]=some xs[6]:=by simpa using h6
 obtain⟨hb,h1⟩:=CB h6' (cw (CA (cZ.2 ⟨xs[6],List.getElem_mem _,rfl⟩)) (by
  simp only[Rows.uptoBulk]at hw;exact Nat.le_of_succ_le hw))
 exact⟨⟨c0,c1,c2,c3,c4,d0,d1,d2,d3,d4,d5,d6,d7,d8,d9,QE⟩,rfl,⟨km,nr,hb⟩,h1⟩
end
theorem BQ{H:Type}{enc:TypeId×Value->H}{spare:Nat->Bool}{held:Bool}{fuel:Nat}{x:DataW H×List MemPlace}(h:aK enc ae W 0 spare held fuel 22 [v]=some x)(hw:Rows.uptoBulk x.1<=1048576):
  ∃lZ:List D2,Cu W v lZ/\(∀o∈lZ,(Nr o.on/\Nr o.a/\oZ 1048576 (fun _=>True) W o.v)/\o.v.oneCell'=true)/\lZ.length<=1048576:=by
 rcases open_slice underlying22 h with⟨lF,_⟩|⟨a,len,cap,m,n,D,Pl,lF,_,hl,_,hm,hx,hel⟩
 ·simp only[List.cons.injEq,and_true]at lF;subst lF;exact⟨[],a_ ⟨rfl,rfl⟩,⟨fun o ho=>absurd ho (dy),by decide⟩⟩
 ·simp only[List.cons.injEq,and_true]at lF;subst lF;have hlm:len<=m:=by rw[hm];split<;>omega
  rw[hx]at hw;simp only[Rows.uptoBulk]at hw
  have i8:len<=1048576:=by
   have:=Cz ((dh len).map D);rw[List.length_map,List.length_range]at this;omega
  have hdw:∀i,i<len->Rows.uptoBulk (D i)<=1048576:=by
   intro i hi;have:=CA (d:=D i) (l:=(dh len).map D) (cZ.2 ⟨i,eH.2 hi,rfl⟩);omega
  rw[Nw]at hel
  have ac1:∀i,i<len->∃o:D2,W.cells? 0 (a.add (i*16)) 16=some o.cells/\(Nr o.on/\Nr o.a/\oZ 1048576 (fun _=>True) W o.v)/\o.v.oneCell'=true:=by
   intro i hi;obtain⟨cs,h1,h2⟩:=hel i (by omega);obtain⟨o,rfl,ho⟩:=JX h2 (hdw i hi);exact⟨o,h1,ho⟩
  haveI:Inhabited D2:=⟨⟨0,0,0,0,0,0,0,0,0,0,0,0,0,0,0,aj none 0 0⟩⟩
  obtain⟨f,hf⟩:=choose_lt ac1;have NS:((dh len).map f).length=len:=by simp
  refine⟨(dh len).map f,aV ⟨a,cap,by rw[NS],?_⟩,?_,?_⟩
  ·intro j u hu
   have hj:j<len*16:=by
    have:=(bm.1 hu).1;rw[sC,NS]at this;exact this
   have e:j=j/16*16+j%16:=by omega
   rw[e,CF _ (j/16) (by rw[NS];omega) (j%16) (by omega)]at hu;have hg:((dh len).map f)[j/16]'(by rw[NS];omega)=f (j/16):=by simp
   rw[hg]at hu;have hc:=(hf (j/16) (by omega)).1;obtain⟨_,_,hr⟩:=World.cells?_some hc;have:=hr (j%16) (by omega);rw[add_add,<-e]at this;rw[this];exact hu
  ·intro o ho;obtain⟨i,hi,rfl⟩:=cZ.1 ho;exact(hf i (eH.1 hi)).2
  ·rw[NS];exact i8
theorem Of(lZ:List D2)(vs:Value)(w:World)(he:Env w)(hs:Cu w vs lZ)(jR:∀o∈lZ,(Nr o.on/\Nr o.a/\oZ 1048576 (fun _=>True) w o.v)/\o.v.oneCell'=true)(hn:lZ.length<=1048576):
  Calls ae 4 #[vs] w fun e w'=>e=.returned (.bool true)/\Below w.heap.size w w':=by
 have HP:=gE (J5 lZ vs w he hs jR hn);clear he hs jR hn;go_enter func4,ntmps4;go_wp2_with fail;refine HP.out.mono ?_;rintro e w1 ⟨rfl,hb⟩;go_wp2_with fail;go_ret;exact⟨rfl,hb⟩
theorem own:ownKnob ae.godebug=none:=by kernel_rfl
theorem RQ:(ae.globals[1]?).map (·.type)=some 320:=by kernel_rfl
theorem Rz:ae.cellsOf 320=20:=by kernel_rfl
theorem RA:ae.cellsOf 312=1:=by kernel_rfl
theorem aci:ae.globalNamed "errors.errorType" = some 0:=by kernel_rfl
theorem adB:(ae.cutTypes.find? (·.1 == "internal/reflectlite.rtype")).map (·.2)=some 263:=by kernel_rfl
theorem Y7:((dh 369).filter fun t=>ae.rowNamed t [101,114,114,111,114])=[109]:=by kernel_rfl
theorem Qw:ae.types.size=369:=by kernel_rfl
theorem Vw:laidOutB ae=true:=by kernel_rfl
theorem I4(h:laidMetH ae Rows.comesUptoRow.laid W):Env W:=by
 have h':laidMet ae [("math/bits.deBruijn32tab",Rows.laid_math_bits_deBruijn32tab),("math/bits.deBruijn64tab",Rows.laid_math_bits_deBruijn64tab),("internal/strconv.uint64pow10",Rows.laid_internal_strconv_uint64pow10)] W/\handlesMet ae [("errors.errorType",Rows.laid_errors_errorType)] W:=h;refine⟨Lib.tabIs_of_head (rest:=[]) aaG RQ underlying320 underlying312 RA Rz h'.1.tail.tail,?_⟩;obtain⟨name,u,ty,e1,e2,e3,e4,e5⟩:=h'.2 _ (List.mem_singleton.2 rfl);have en:name=[101,114,114,111,114]:=(Option.some.inj e1).symm;subst en;obtain rfl:=Option.some.inj (adB.symm.trans e2);have hm:ty∈(dh 369).filter fun t=>ae.rowNamed t [101,114,114,111,114]:=List.mem_filter.2 ⟨eH.2 (by rw[<-Qw];exact e3),e4⟩
 rw[Y7]at hm;obtain rfl:=List.mem_singleton.1 hm;have hh:typeHandle ae 109=ai (some ⟨4,109,none⟩):=by kernel_rfl
 rw[hh]at e5;simpa using World.var?_cell aci e5 0
set_option maxRecDepth 100000 in
theorem contract(H:Type)(enc:TypeId×Value->H)(W:World)(base:Nat)(args:Array Value)(ds gs:List (DataW H))(before:List MemPlace)
  (Vr:∀(j:Nat) t v,f4.params[j]? =some t->args[j]? =some v->Value.okWide ae W .any base t v)
  (hW:DataW.Whole enc ae f4.params.toList Rows.comesSpec.vars false W args.toList ds gs before)
  (ku:Rows.uptoSmall H (ds++gs)=true)
  (hL:laidMetH ae Rows.comesUptoRow.laid W):
  Calls ae 4 args W fun e W'=>∃v,e=.returned v/\Rows.comesSpec.post enc ae f4 false true false false W args v W':=by
 have Je:=hW;obtain⟨p,q,hA0,hV,rfl,hfz,tz⟩:=hW;have hA:DataW.TrodAll enc ae W 0 (fun _=>true) true f4.params.toList args.toList ds p:=hA0;rw[params4]at hA Vr;obtain⟨v0,vs0,d0,ds0,p0,q0,adG,rfl,rfl,h0,r0⟩:=trodAll_cons hA;obtain⟨rfl,rfl,rfl⟩:=trodAll_nil r0;obtain rfl:args=#[v0]:=by cases args;simp_all
 obtain⟨rfl,rfl⟩:=trodVars_none hV;obtain⟨a0,adv,aaz,rfl⟩:=okWide_slice underlying22 (Vr 0 22 v0 rfl rfl);have k0:=h0;have lt0:∀x∈p0,x.block<W.heap.size:=by obtain⟨m,hm⟩:=k0;exact DataW.trod_lt m _ _ _ hm
 obtain⟨fuel,hf⟩:=h0
 have hw:Rows.uptoBulk d0<=1048576:=by
  have:=of_decide_eq_true ku;simp only[List.append_nil,Rows.uptoBulkAll]at this;omega
 obtain⟨lZ,hs,jR,hn⟩:=BQ (v:=.slice a0 adv aaz) hf hw;clear hA0;refine(Of lZ _ W (I4 hL) hs jR hn).mono fun e W' ⟨he,ze⟩=>?_
 subst he;exact⟨_,rfl,_,_,_,[],_,[],Je,trodAll_mk1 (shut_bool underlying4 _),(trodAll_cons_mk (Below.trod Vw (by kernel_rfl) (of_decide_eq_true (by kernel_rfl)) k0 ze lt0) trodAll_mk0),rfl,ze.frame _,fun h=>by cases h⟩
def NX(g:Nat)(cs:Array Value)(h:Array Obj):Array Obj:=h.modify g fun
 |.cells _ t frozen=>.cells cs t frozen
 |o=>o
def ab1:Array Value:=#[.int .u8 0,.int .u8 1,.int .u8 56,.int .u8 2,.int .u8 57,.int .u8 49,.int .u8 28,.int .u8 3,.int .u8 61,.int .u8 58,.int .u8 42,.int .u8 50,.int .u8 38,.int .u8 29,.int .u8 17,.int .u8 4,.int .u8 62,.int .u8 47,.int .u8 59,.int .u8 36,.int .u8 45,.int .u8 43,.int .u8 51,.int .u8 22,.int .u8 53,.int .u8 39,.int .u8 33,.int .u8 30,.int .u8 24,.int .u8 18,.int .u8 12,.int .u8 5,.int .u8 63,.int .u8 55,.int .u8 48,.int .u8 27,.int .u8 60,.int .u8 41,.int .u8 37,.int .u8 16,.int .u8 46,.int .u8 35,.int .u8 44,.int .u8 21,.int .u8 52,.int .u8 32,.int .u8 23,.int .u8 11,.int .u8 54,.int .u8 26,.int .u8 40,.int .u8 15,.int .u8 34,.int .u8 20,.int .u8 31,.int .u8 10,.int .u8 25,.int .u8 14,.int .u8 19,.int .u8 9,.int .u8 13,.int .u8 8,.int .u8 7,.int .u8 6]
def ab0:Array Value:=#[.int .u8 0,.int .u8 1,.int .u8 28,.int .u8 2,.int .u8 29,.int .u8 14,.int .u8 24,.int .u8 3,.int .u8 30,.int .u8 22,.int .u8 20,.int .u8 15,.int .u8 25,.int .u8 17,.int .u8 4,.int .u8 8,.int .u8 31,.int .u8 27,.int .u8 13,.int .u8 23,.int .u8 21,.int .u8 19,.int .u8 16,.int .u8 7,.int .u8 26,.int .u8 12,.int .u8 18,.int .u8 6,.int .u8 11,.int .u8 5,.int .u8 10,.int .u8 9]
def Zl:Array Value:=#[.int .u64 1,.int .u64 10,.int .u64 100,.int .u64 1000,.int .u64 10000,.int .u64 100000,.int .u64 1000000,.int .u64 10000000,.int .u64 100000000,.int .u64 1000000000,.int .u64 10000000000,.int .u64 100000000000,.int .u64 1000000000000,.int .u64 10000000000000,.int .u64 100000000000000,.int .u64 1000000000000000,.int .u64 10000000000000000,.int .u64 100000000000000000,.int .u64 1000000000000000000,.int .u64 10000000000000000000]
def Zk:Array Value:=#[.iface 263 (.agg #[ai (some ⟨4,109,none⟩)])]
def SS(h:Array Obj):Array Obj:=NX 3 ab1 (NX 2 ab0 (NX 1 Zl (NX 0 Zk h)))
theorem SU(os:Os):laidMetH ae Rows.comesUptoRow.laid (({World.holding ae os ⟨#[],#[],[]⟩ with heap:=SS (World.holding ae os ⟨#[],#[],[]⟩).heap}:World).forCall (fun _ _=>0) ⟨#[],#[aj none 0 0],[]⟩).memory:=
 laidMetH_of_parts (laidMet_of_run' 8 (by kernel_rfl) (by kernel_rfl)) (by kernel_rfl)
theorem reads(os:Os){H:Type}(enc:TypeId×Value->H):∃places,DataW.whole enc ae (({World.holding ae os ⟨#[],#[],[]⟩ with heap:=SS (World.holding ae os ⟨#[],#[],[]⟩).heap}:World).forCall (fun _ _=>0) ⟨#[],#[aj none 0 0],[]⟩).memory f4.params.toList Rows.comesSpec.vars false #[cX none 0 0].toList 8=some ([.nil],[],places):=
 ⟨[],by kernel_rfl⟩
set_option maxRecDepth 100000 in
theorem YY(os:Os)(Hg:os.Started)(H:Type)(enc:TypeId×Value->H)(F:Stop.Interp):
  ReturnsInHanded {} Tryz.checked os 4 .any ((Rows.OpenSpec.upto Rows.comesSpec).preRow enc ae f4 Rows.comesUptoRow.domain false Rows.comesUptoRow.laid) (((Rows.OpenSpec.upto Rows.comesSpec).at F).post enc ae f4 false true false false):=by
 obtain⟨places,hx⟩:=reads os enc
 refine returnsInHanded_of_row (C:=Tryz.checked) (s:=Rows.OpenSpec.upto Rows.comesSpec) own Hg (by kernel_rfl) func4
  (witness_row_at (enc:=enc) (C:=Tryz.checked) false ({World.holding ae os ⟨#[],#[],[]⟩ with heap:=SS (World.holding ae os ⟨#[],#[],[]⟩).heap}:World) #[aj none 0 0] rfl (by kernel_rfl) (by kernel_rfl) (by kernel_rfl)
   (OpenSpec.preRow_of_cond 8 hx (by kernel_rfl) (fun k hk=>by cases hk;rfl) (by kernel_rfl) (SU os))) ?_
 intro W base args ds gs before Vr hW _ hk _ hL _ _;exact contract H enc W base args ds gs before Vr hW (hk _ rfl) hL
theorem adC:Rows.ComesUptoSaid:=
 OpenClaim.holds_of_cond 4 f4 rfl rfl rfl rfl rfl rfl rfl ⟨rfl,rfl,rfl,rfl,rfl⟩ rfl rfl rfl rfl rfl (by kernel_rfl) func4 Gh
  (of_decide_eq_true (by kernel_rfl)) (by unfold Func.isWrapper;first |(rw[if_pos (by decide +kernel)];kernel_rfl) |(rw[if_neg (by decide +kernel)];exact⟨rfl,rfl⟩))
  (fun os Hg H enc _ F=>by rw[OpenClaim.pre_eq_preRow];exact YY os Hg H enc F)
theorem J4(f:FuncId)(fn:Func)(hf:Tryz.pinned.checked.prog.funcNamed "cistern/cisternlaw.Comes" = some f)(hfn:Tryz.pinned.checked.prog.funcs[f]? =some fn):
  true=Tryz.pinned.checked.prog.looks []/\∀(j:Nat) t,fn.params[j]? =some t->Tryz.pinned.checked.prog.wantsStandIn t=false:=by
 obtain rfl:f=4:=Option.some.inj ((show ae.funcNamed "cistern/cisternlaw.Comes" = some 4 by kernel_rfl).symm.trans hf) |>.symm
 obtain rfl:fn=f4:=(Option.some.inj (func4.symm.trans hfn)).symm;refine⟨by kernel_rfl,fun j t ht=>?_⟩;rw[params4]at ht;obtain rfl:t=22:=by simpa using Array.mem_of_getElem? ht
 exact(show ae.wantsStandIn 22=false by kernel_rfl)
theorem comes_card:Rows.ComesUptoCardSaid:=
 Claim7.holds_tied_plain_at .later [] _ _ _ _ adC (fun _ h=>by cases h) (by kernel_rfl) (fun _ h=>by cases h) comesUpto_row_tie rfl ⟨rfl,rfl⟩ (by kernel_rfl) rfl J4 (by kernel_rfl)
end Go.Proofs.YthmdjhlhodpbhaaGreatDoor
