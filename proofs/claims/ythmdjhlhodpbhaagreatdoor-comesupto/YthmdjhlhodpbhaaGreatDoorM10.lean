/- Comes, part 10 -/
import Derived.Test.YthmdjhlhodpbhaaGreatDoorM09
set_option maxHeartbeats 16000000
set_option maxRecDepth 8000
namespace Go.Proofs.YthmdjhlhodpbhaaGreatDoor
open Go.RowKit
open _root_.Classical renaming byContradiction → cM
open _root_.Go.Proofs.Tryz
open _root_.Go.Proofs.Tryz renaming prog → ae
open Go.Value renaming int → af, pointer → ai
open Go.IntKind renaming i64 → ag
variable {U:Nat->Prop}{w w':World}{x:jf}{b:Nat}{lv:Value}{jm:Int}{l:List Int}
structure n9(U:Nat->Prop)(w:World)(b:Nat)(lv:Value)(jm:Int)(x:jf):Prop where
 i_:w.heap[b]? =some (.cells #[lv,af ag x.read,af ag x.gR,af ag x.gM,af ag jm,af ag (max x.final 0),.bool (decide (0<=x.final)),.bool x.reset] 204 (0,0))
 runs:∃vs,kC w lv vs (jo x.read x.bytes)/\∀v∈vs,Cl v.2/\∀g,v.2.ownBlock=some g->U g
theorem n9.lt(h:n9 U w b lv jm x):b<w.heap.size:=(Array.getElem?_eq_some_iff.1 h.i_).1
theorem n9.own(h:n9 U w b lv jm x):∃vs,w.ownsRow 0 259 2 lv vs.length (iz vs):=by
 obtain⟨vs,h1,_⟩:=h.runs;exact⟨vs,h1.own⟩
theorem n9.cell(h:n9 U w b lv jm x)(i:Nat):w.cell? ⟨b,i,none⟩=(#[lv,af ag x.read,af ag x.gR,af ag x.gM,af ag jm,af ag (max x.final 0),.bool (decide (0<=x.final)),.bool x.reset]:Array Value)[i]?:=by
 simp only[World.cell?,h.i_]
 rfl
theorem n9.iO{F:Nat->Prop}(h:n9 U w b lv jm x)(hc:ip F w w')(h1:¬F b)(h2:∀g,lv.ownBlock=some g->¬F g)(h3:∀k cur fr,w.heap[k]? =some (.cells cur 5 fr)->¬F k):n9 U w' b lv jm x:=by
 obtain⟨vs,hr,hk⟩:=h.runs;refine⟨by rw[hc.block b h.lt h1];exact h.i_,vs,⟨jg hr.own hc h2,hr.sh,fun i v r hv hw=>(hr.ro i v r hv hw).iO hc h3⟩,hk⟩
theorem n9.below(h:n9 U w b lv jm x)(hb:Below w.heap.size w w'):n9 U w' b lv jm x:=h.iO (F:=fun _=>False) (ip.gS hb) (fun h=>h) (fun _ _ h=>h) (fun _ _ _ _ h=>h)
theorem n9.mono{U':Nat->Prop}(h:n9 U w b lv jm x)(hU:∀k,U k->U' k):n9 U' w b lv jm x:=by
 obtain⟨vs,hr,hk⟩:=h.runs;exact⟨h.i_,vs,hr,fun v hv=>⟨(hk v hv).1,fun g hg=>hU g ((hk v hv).2 g hg)⟩⟩
theorem CP{base:Int}(h0:0<=base)(hl:base+l.length<=1099511627776)(hc:(jo base l).length<=100):nT (jo base l) where
 wf:=xz l base
 BA:=hc
 UR:=fun r hr=>by
  have h1:=rz l base r hr;have h2:=Qh l base r hr;omega
theorem np.fit{iI:Int}(h:np iI x)(hg:iI<=8):nT (jo x.read x.bytes):=by
 refine CP h.read ?_ ?_
 ·have:=h.len;have:=h.Ls;omega
 ·have h1:=qT x.bytes x.read;have:=h.iI;omega
theorem me.cap{v:Value}(h:me w v l):∀ao cap,v=.slice ao l.length cap->l.length<=cap/\cap<=9223372036854775807:=by
 obtain⟨_,_,ao,cap,rfl,h3,h4,_⟩:=h;intro ao' n_ e;simp only[Value.slice.injEq]at e;omega
structure FZ(U F:Nat->Prop)(w:World)(b:Nat)(lv:Value)(jm:Int)(r:Int×jf)(e:Ending)(w':World):Prop where
 ret:e=.returned (af ag r.1)
 iO:ip F w w'
 str:r.1=0->∃iX,n9 (fun k=>U k\/(w.heap.size<=k/\k<w'.heap.size)) w' b iX jm r.2/\(iX.ownBlock=lv.ownBlock\/∀g,iX.ownBlock=some g->w.heap.size<=g)
theorem Tx(b:Nat)(lv:Value)(jm iI gM high:Int)(f:lL)(x:jf)(bv:Value)(pf:Int)(w:World)(h:n9 U w b lv jm x)(hx:np iI x)(hd:x.done=false)(kq:high<=gM)(hg:0<=iI/\iI<=8)(BJ:f.type=3\/f.type=4\/f.type=5)(h5:f.type=5->f.bytes=[])(ho:0<=f.iC/\f.iC<=1073741823)(hl:f.bytes.length<=1073741823)(kI:me w bv f.bytes):
  Calls ae 217 #[ai (some ⟨b,0,none⟩),rx f.type f.id (if f.type=5 then 0 else f.iC) bv (f.iC+f.bytes.length) pf,af ag (gM-high),af ag iI] w fun e w'=>FZ U (fun k=>k=b\/lv.ownBlock=some k) w b lv jm (iw iI gM high f x) e w':=by
 obtain⟨vs,hr,hk⟩:=h.runs;have hP:=Hk (iI:=iI) (gM:=gM) (high:=high) (f:=f) kI.1 hx hd kq BJ h5 ho.1;have hR:=N6 hx (f:=f) kI.1 h5;simp only at hP hR;have Ps:0<=(if f.type=5 then 0 else f.iC)/\(if f.type=5 then 0 else f.iC)<=1073741823:=by split<;>omega
 obtain⟨po,ac3⟩:∃po,(if f.type=5 then 0 else f.iC)=po:=⟨_,rfl⟩;rw[ac3]at hP hR Ps⊢;have i8:=hx.len;have mH:=hx.Ls;have Ip:=hx.read;have U6:=qT x.bytes x.read;have ZV:=hx.iI;obtain⟨r,oq⟩:∃r,yD x.reset (jo x.read x.bytes) (po+oT x.read po f.bytes) (f.bytes.drop (oT x.read po f.bytes)) iI=r:=⟨_,rfl⟩;rw[oq]at hP hR
 have xD:r.1=0->nT r.2:=by
  intro h0
  have Jt:(r.2.length:Int)<=iI:=by
   rw[<-oq]at h0⊢;unfold yD at h0⊢
   split
   ·simp only;omega
   ·next h1=>
    rw[if_neg h1]at h0
    split
    ·next h2=>rw[if_pos h2]at h0;exact absurd (show(9:Int)=0 from h0) (by decide)
    ·next h2=>
     rw[if_neg h2]at h0;simp only at h0⊢
     split at h0
     ·exact absurd h0 (by decide)
     ·omega
  by_cases hc:f.type≠5/\x.reset=false
  ·obtain⟨e1,e2⟩:=hR.1 hc;have e3:=e2 h0;rw[e3]at Jt⊢;refine CP Ip ?_ (by omega)
   have iT:((jD iI x f.iC f.bytes).2.bytes.length:Int)<=2147483647:=by
    unfold jD
    split
    ·simp only;omega
    ·next m hm=>
     have:=vD hm
     split<;>simp only<;>omega
   omega
  ·rw[hR.2 hc];exact hx.fit hg.2
 refine(Qt b lv vs (jo x.read x.bytes) x.read x.gR x.gM jm (max x.final 0) (decide (0<=x.final)) x.reset f.type f.id po bv (f.iC+f.bytes.length) pf (gM-high) iI f.bytes _ _ r w h.i_ hr (hx.fit hg.2) hk kI.ro kI.cap (by omega) Ps hl (by omega) (by omega) rfl rfl oq.symm xD).mono ?_;rintro e w' ⟨rfl,rn,xG⟩;refine⟨by rw[hP.1],rn,fun h0=>?_⟩;rw[hP.1]at h0
 have km:I3 (decide (0<=x.final)) f.type (f.iC+f.bytes.length) x.gR (max x.final 0)=0:=by
  refine cM fun js=>?_
  rw[if_pos js]at h0;exact js h0
 rw[if_neg (by rw[km];decide)]at h0
 have nr:tr x.gR x.gM (f.iC+f.bytes.length) (gM-high)=0:=by
  refine cM fun js=>?_
  rw[if_pos js]at h0;exact js h0
 rw[if_neg (by rw[nr];decide)]at h0;obtain⟨iX,lm,hT⟩:=xG km nr h0;obtain⟨q1,q2,q3,q4,q5,q6,q7⟩:=hP.2 km nr h0 _ rfl;generalize (iw iI gM high f x).2=x' at *
 have kA:=hT.i_;have JD:=hT.runs
 have ads:mf (if f.type=5/\kh r.2 x.read (f.iC+f.bytes.length)=false then [] else r.2):=by
  split
  ·exact trivial
  ·exact(xD h0).wf
 have Wl:∀v∈lm,Cl v.2/\∀g,v.2.ownBlock=some g->U g\/(w.heap.size<=g/\g<w'.heap.size):=by
  intro v hv;have h1:=hT.Rw v hv;have h2:=JD.yB ads v hv;exact⟨h1.1,fun g hg=>(h1.2 g hg).imp id fun h3=>⟨h3,h2 g hg⟩⟩
 have adJ:mN f.type=true->(if mN f.type=true then f.iC+(f.bytes.length:Int) else x.final)=f.iC+f.bytes.length:=fun h=>if_pos h
 have lI:(if mN f.type=true then f.iC+(f.bytes.length:Int) else max x.final 0)=max x'.final 0:=by
  rw[q4]
  split<;>omega
 have Yj:(if mN f.type=true then true else decide (0<=x.final))=decide (0<=x'.final):=by
  rw[q4]
  split
  ·simp;omega
  ·rfl
 rw[lI,Yj,<-q2]at kA;by_cases zy:f.type=5/\kh r.2 x.read (f.iC+f.bytes.length)=false
 ·obtain⟨e1,e2⟩:=q6 zy.1 zy.2;rw[if_pos zy]at kA JD;refine⟨iX,⟨?_,lm,?_,Wl⟩,hT.at_⟩
  ·rw[q1,q3,e1];exact kA
  ·rw[e2];exact JD
 ·obtain⟨e1,e2⟩:=q7 zy;rw[if_neg zy]at kA JD;refine⟨iX,⟨?_,lm,?_,Wl⟩,hT.at_⟩
  ·rw[q1,q3,e1];exact kA
  ·rw[q1,e2];exact JD
end Go.Proofs.YthmdjhlhodpbhaaGreatDoor
