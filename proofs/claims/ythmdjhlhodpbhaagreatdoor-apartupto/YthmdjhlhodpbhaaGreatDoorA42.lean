/- Apart, 42 -/
import Derived.Test.YthmdjhlhodpbhaaGreatDoorA35
import Derived.Test.YthmdjhlhodpbhaaGreatDoorA41
set_option maxHeartbeats 16000000
set_option maxRecDepth 8000
namespace Go.Proofs.YthmdjhlhodpbhaaGreatDoor
theorem deal_addr{gaps:Int}{f:dx}{c:aw}:(bG gaps f c).2.addr=c.addr:=by
 rw[(kD (gaps:=gaps) (f:=f) (c:=c)).1]
theorem gp{l:List aw}{i:Nat}(hi:0<i)(c:aw):(l.set i c)[0]? =l[0]?:=List.getElem?_set_ne (by omega)
theorem lM{l:List aw}{i:Nat}(hi:0<i):(l.eraseIdx i)[0]? =l[0]?:=by
 rw[List.getElem?_eraseIdx,if_pos hi]
structure OthR(s:ay)(a:Int)(outs:List (Int×List Int))(r:ay×List (Int×List Int)):Prop where
 at_:r.1.conns[0]? =s.conns[0]?
 now:r.1.now=s.now
 cfg:r.1.c=s.c
 outs:(∀o∈outs,o.1=a)->∀o∈r.2,o.1=a
theorem OthR.refl(s:ay)(a:Int)(outs:List (Int×List Int)):OthR s a outs (s,outs):=⟨rfl,rfl,rfl,id⟩
theorem iF{c:aw}{f:List Int}{outs:List (Int×List Int)}{a:Int}(hc:c.addr=a)(h:∀o∈outs,o.1=a):∀o∈ca c f outs,o.1=a:=by
 intro o ho
 unfold ca at ho
 split at ho
 ·rcases List.mem_append.1 ho with h1|h1
  ·exact h o h1
  ·rw[List.mem_singleton.1 h1]
   exact hc
 ·exact h o ho
theorem wX{s:ay}{i:Nat}(hi:0<i){c:aw}(hc:s.conns[i]? =some c){a:Int}(ha:c.addr=a)(f:dx):(dH s i c f).srv.conns[0]? =s.conns[0]?/\(dH s i c f).srv.now=s.now/\(dH s i c f).srv.c=s.c/\((dH s i c f).gone=false->∀c',(dH s i c f).srv.conns[i]? =some c'->c'.addr=a):=by
 have hil:=(lLt hc)
 unfold dH
 split
 ·exact⟨rfl,rfl,rfl,fun _ c' h=>by simp only at h;rw[hc]at h;obtain rfl:=Option.some.inj h;exact ha⟩
 ·split
  ·exact⟨lM hi,rfl,rfl,fun h=>by cases h⟩
  ·split
   ·unfold tr
    split
    ·exact⟨rfl,rfl,rfl,fun _ c' h=>by simp only at h;rw[hc]at h;obtain rfl:=Option.some.inj h;exact ha⟩
    ·split
     ·exact⟨rfl,rfl,rfl,fun _ c' h=>by simp only at h;rw[hc]at h;obtain rfl:=Option.some.inj h;exact ha⟩
     ·exact⟨gp hi _,rfl,rfl,fun _ c' h=>by simp only at h;rw[List.getElem?_set_self hil]at h;obtain rfl:=Option.some.inj h;exact ha⟩
   ·exact⟨gp hi _,rfl,rfl,fun _ c' h=>by simp only at h;rw[List.getElem?_set_self hil]at h;obtain rfl:=Option.some.inj h;rw[deal_addr];exact ha⟩
theorem hQ{i:Nat}(hi:0<i){a:Int}:∀(n:Nat) (s:ay) (b:List Int) (outs:List (Int×List Int)),(∀c,s.conns[i]? =some c->c.addr=a)->OthR s a outs (cG s i b outs n)
 |0,s,b,outs,_=>OthR.refl s a outs
 |n+1,s,b,outs,h=>by
  unfold cG
  split
  ·exact OthR.refl s a outs
  ·split
   ·exact OthR.refl s a outs
   ·rename_i c hc
    have ha:=h c hc
    split
    ·exact⟨lM hi,rfl,rfl,iF ha⟩
    ·rename_i f size hf
     obtain⟨d1,d2,d3,d4⟩:=wX hi hc ha f
     split
     ·exact⟨lM hi,rfl,rfl,iF ha⟩
     ·split
      ·exact⟨d1,d2,d3,id⟩
      ·rename_i hg
       have r:=hQ hi n (dH s i c f).srv (b.drop size) outs (d4 (by simpa using hg))
       exact⟨r.at_.trans d1,r.now.trans d2,r.cfg.trans d3,r.outs⟩
theorem OthR.then{s s1:ay}{a:Int}{outs outs1:List (Int×List Int)}{r:ay×List (Int×List Int)}(h:OthR s1 a outs1 r)(h1:s1.conns[0]? =s.conns[0]?)(h2:s1.now=s.now)(h3:s1.c=s.c)(h4:(∀o∈outs,o.1=a)->∀o∈outs1,o.1=a):OthR s a outs r:=⟨h.at_.trans h1,h.now.trans h2,h.cfg.trans h3,fun q=>h.outs (h4 q)⟩
theorem rT(c:aw)(f:List Int):(bt c f).addr=c.addr:=by
 unfold bt
 split<;>rfl
theorem pJ{s:ay}{c0:aw}(h0:s.conns[0]? =some c0){cid addr size:Int}{b:List Int}{N:Nat}{outs:List (Int×List Int)}:OthR s addr outs (lF s cid addr size b N outs)/\OthR s addr outs (kQ s cid addr size b N outs):=by
 have hl:=(lLt h0)
 have ea:∀ok,(bA s cid addr size ok).addr=addr:=fun ok=>rfl
 have hz:∀c c':aw,((s.conns++[c]).set s.conns.length c')[0]? =s.conns[0]?:=by
  intro c c'
  rw[gp hl,List.getElem?_append_left hl]
 constructor
 ·unfold lF
  refine(hQ hl N _ b _ (a:=addr) (fun c hc=>?_)).then (hz _ _) rfl rfl (iF (ea _))
  simp only at hc
  rw[List.getElem?_set_self (by simp)]at hc
  obtain rfl:=Option.some.inj hc
  rw[rT]
  rfl
 ·unfold kQ
  refine(hQ hl N _ b _ (a:=addr) (fun c hc=>?_)).then ?_ rfl rfl (iF (ea _))
  ·simp only[pO]at hc
   rw[List.getElem?_set_self (by simp)]at hc
   obtain rfl:=Option.some.inj hc
   simp only[oe,rT]
   rfl
  ·simp only[pO]
   rw[gp hl]
   exact hz _ _
theorem recv_other{s:ay}{c0:aw}(h0:s.conns[0]? =some c0){a:Int}(ha:c0.addr≠a)(b:List Int):OthR s a [] (bg s a b):=by
 have hl:=(lLt h0)
 unfold bg
 split
 ·exact OthR.refl s a []
 ·split
  ·exact OthR.refl s a []
  ·rename_i d hd
   split
   ·unfold fM
    split
    ·rename_i k hk
     split
     ·rename_i c hc
      unfold gh
      split
      ·exact OthR.refl s a []
      ·rename_i hca
       have hk0:0<k:=by
        rcases Nat.eq_zero_or_pos k with rfl|h
        ·rw[h0]at hc
         obtain rfl:=Option.some.inj hc
         exact absurd (Decidable.not_not.1 hca) ha
        ·exact h
       simp only
       split
       ·exact⟨gp hk0 _,rfl,rfl,id⟩
       ·exact⟨gp hk0 _,rfl,rfl,iF (Decidable.not_not.1 hca)⟩
     ·exact OthR.refl s a []
    ·split
     ·split
      ·split
       ·exact OthR.refl s a []
       ·exact(pJ h0).2
      ·exact OthR.refl s a []
     ·split
      ·refine⟨rfl,rfl,rfl,fun h o ho=>?_⟩
       unfold kU at ho
       split at ho
       ·rcases List.mem_append.1 ho with h1|h1
        ·exact h o h1
        ·rw[List.mem_singleton.1 h1]
       ·exact h o ho
      ·split
       ·exact OthR.refl s a []
       ·exact(pJ h0).1
   ·unfold gi
    split
    ·exact OthR.refl s a []
    ·rename_i k hk
     split
     ·exact OthR.refl s a []
     ·rename_i c hc
      split
      ·exact OthR.refl s a []
      ·rename_i hca
       have hca':c.addr=a:=Decidable.not_not.1 hca
       have hk0:0<k:=by
        rcases Nat.eq_zero_or_pos k with rfl|h
        ·rw[h0]at hc
         obtain rfl:=Option.some.inj hc
         exact absurd hca' ha
        ·exact h
       have hkl:=(lLt hc)
       split
       ·exact⟨gp hk0 _,rfl,rfl,id⟩
       ·rename_i c2 hc2
        have e2:c2.addr=a:=by
         unfold dy at hc2
         rw[Option.map_eq_some_iff]at hc2
         obtain⟨r,_,rfl⟩:=hc2
         exact hca'
        refine(hQ hk0 _ _ _ _ (a:=a) (fun c' hc'=>?_)).then (gp hk0 _) rfl rfl id
        simp only at hc'
        rw[List.getElem?_set_self hkl]at hc'
        obtain rfl:=Option.some.inj hc'
        exact e2
theorem o4{s:ay}{c:aw}(h:s.conns[0]? =some c)(hc:c.cid=300)(hn:s.now=0):AtK s 0 c:=by
 refine⟨?_,h,hn⟩
 unfold ei
 rw[List.findIdx?_eq_some_iff_getElem]
 obtain⟨hl,e⟩:=List.getElem?_eq_some_iff.1 h
 exact⟨hl,by rw[e];simp[hc],fun j hj=>by omega⟩
theorem sK{s:ay}{c0:aw}(h0:s.conns[0]? =some c0):((bW s).2.2.conns[0]? =some c0\/(bW s).2.2.conns[0]? =some {c0 with waits:=0})/\(bW s).2.2.now=s.now/\(bW s).2.2.c=s.c:=by
 unfold bW
 split
 ·exact⟨Or.inl h0,rfl,rfl⟩
 ·rename_i j hj
  split
  ·exact⟨Or.inl h0,rfl,rfl⟩
  ·rename_i c hc
   refine⟨?_,rfl,rfl⟩
   rcases Nat.eq_zero_or_pos j with rfl|h
   ·rw[h0]at hc
    obtain rfl:=Option.some.inj hc
    exact Or.inr (List.getElem?_set_self (lLt h0))
   ·exact Or.inl (by simp only;rw[gp h];exact h0)
end Go.Proofs.YthmdjhlhodpbhaaGreatDoor
namespace Go.Proofs.YthmdjhlhodpbhaaGreatDoor
open Go.RowKit
structure OneAt(w0:World)(B:Nat)(H:Nat->Prop)(w:World)(xb sb:Nat)(g:Cfg)(N:Nat)(M L Z:Int)(c:aY)(got sent waits:Int):Prop where
 ex:∃v0 v1 v2 v3 v4 v5 v6 F s,ClAt B w xb sb g c v0 v1 v2 v3 v4 v5 v6/\LiveF w0 F N M L w sb s/\AtK s 0 (bq c got sent waits)/\s.c=g/\∀k,F k\/bO xb v0 v1 v2 v3 v4 v5 v6 k↔H k
 inv:KInv g Z c
theorem OneAt.bel{w0:World}{B:Nat}{H:Nat->Prop}{w:World}{xb sb:Nat}{g:Cfg}{N:Nat}{M L Z:Int}{c:aY}{got sent waits:Int}(h:OneAt w0 B H w xb sb g N M L Z c got sent waits):Below w0.heap.size w0 w:=by
 obtain⟨v0,v1,v2,v3,v4,v5,v6,F,s,h1,h2,_⟩:=h.ex
 exact h2.bel
theorem OneAt.lies{w0:World}{B:Nat}{H:Nat->Prop}{w:World}{xb sb:Nat}{g:Cfg}{N:Nat}{M L Z:Int}{c:aY}{got sent waits:Int}(h:OneAt w0 B H w xb sb g N M L Z c got sent waits)(hB0:w0.heap.size<=B){k:Nat}(hk:H k):w0.heap.size<=k/\k<w.heap.size/\∀cur fr,w.heap[k]?≠some (.cells cur 5 fr):=by
 obtain⟨v0,v1,v2,v3,v4,v5,v6,F,s,h1,h2,_,_,h5⟩:=h.ex
 obtain⟨os,hC,_,_⟩:=h1.ex
 rcases(h5 k).2 hk with e|e
 ·exact⟨(h2.up k e).1,(h2.up k e).2,fun cur fr q=>(h2.ty k e).not q (by simp[gf])⟩
 ·obtain⟨q1,q2,_⟩:=hC.types e
  exact⟨by omega,q2,fun cur fr=>(jR hC e).2 cur fr⟩
theorem OneAt.lies9{w0:World}{B:Nat}{H:Nat->Prop}{w:World}{xb sb:Nat}{g:Cfg}{N:Nat}{M L Z:Int}{c:aY}{got sent waits:Int}(h:OneAt w0 B H w xb sb g N M L Z c got sent waits){k:Nat}(hk:H k):∀cur fr,w.heap[k]?≠some (.cells cur 60 fr):=by
 obtain⟨v0,v1,v2,v3,v4,v5,v6,F,s,h1,h2,_,_,h5⟩:=h.ex
 obtain⟨os,hC,_,_⟩:=h1.ex
 intro cur fr q
 rcases(h5 k).2 hk with e|e
 ·exact(h2.ty k e).not q (by simp[gf])
 ·obtain⟨_,_,cur',e',q3,q4⟩:=hC.types e
  rw[q]at q3
  simp only[Option.some.injEq,Obj.cells.injEq]at q3
  rw[<-q3.2.1]at q4
  simp[je]at q4
theorem OneAt.other{w0:World}{B:Nat}{H G:Nat->Prop}{w w':World}{xb sb:Nat}{g:Cfg}{N:Nat}{M L Z:Int}{c:aY}{got sent waits:Int}(h:OneAt w0 B H w xb sb g N M L Z c got sent waits)(hc:Chg G w w')(h1:∀k,H k->¬G k)(h8:∀k cur fr,w.heap[k]? =some (.cells cur 5 fr)->¬G k)(h0:∀k,G k->w0.heap.size<=k):OneAt w0 B H w' xb sb g N M L Z c got sent waits:=by
 obtain⟨v0,v1,v2,v3,v4,v5,v6,F,s,q1,q2,q3,q4,q5⟩:=h.ex
 obtain⟨os,hC,ho,hold⟩:=q1.ex
 exact⟨⟨v0,v1,v2,v3,v4,v5,v6,F,s,⟨os,hC.chg hc (fun k hk=>h1 k ((q5 k).1 (Or.inr hk))),ho,fun a v fr hv hf=>⟨(hold a v fr hv hf).1.chg hc (fun k cur fr hk=>h8 k cur fr hk),(hold a v fr hv hf).2⟩⟩,q2.chg hc (fun k hk=>h1 k ((q5 k).1 (Or.inl hk))) h8 h0,q3,q4,q5⟩,h.inv⟩
theorem OneAt.below{w0:World}{B:Nat}{H:Nat->Prop}{w w':World}{xb sb:Nat}{g:Cfg}{N:Nat}{M L Z:Int}{c:aY}{got sent waits:Int}(h:OneAt w0 B H w xb sb g N M L Z c got sent waits)(hb:Below w.heap.size w w'):OneAt w0 B H w' xb sb g N M L Z c got sent waits:=
 h.other (G:=fun _=>False) (Chg.of_below hb) (fun _ _ h=>h) (fun _ _ _ _ h=>h) (fun _ h=>h.elim)
theorem OneAt.mono{w0:World}{B:Nat}{H:Nat->Prop}{w:World}{xb sb:Nat}{g:Cfg}{N N':Nat}{M L Z M' L' Z':Int}{c:aY}{got sent waits:Int}(h:OneAt w0 B H w xb sb g N M L Z c got sent waits)(h1:N<=N')(h2:M<=M')(h3:L<=L')(h4:Z<=Z'):OneAt w0 B H w xb sb g N' M' L' Z' c got sent waits:=by
 obtain⟨v0,v1,v2,v3,v4,v5,v6,F,s,q1,q2,q3⟩:=h.ex
 exact⟨⟨v0,v1,v2,v3,v4,v5,v6,F,s,q1,q2.mono h1 h2 h3,q3⟩,h.inv.mono h4⟩
theorem OneAt.cells{w0:World}{B:Nat}{H:Nat->Prop}{w:World}{xb sb:Nat}{g:Cfg}{N:Nat}{M L Z:Int}{c:aY}{got sent waits:Int}(h:OneAt w0 B H w xb sb g N M L Z c got sent waits):w.cell? ⟨xb,0,none⟩= some (.pointer (some ⟨sb,0,none⟩))/\w.cell? ⟨xb,11,none⟩= some (.bool true):=by
 obtain⟨v0,v1,v2,v3,v4,v5,v6,F,s,q1,q2,q3⟩:=h.ex
 obtain⟨os,hC,_,_⟩:=q1.ex
 exact⟨aj hC.blk 0,aj hC.blk 11⟩
theorem OneAt.step [LoM] {w0:World}{B:Nat}{H:Nat->Prop}{w:World}{xb sb:Nat}{g:Cfg}{N:Nat}{M L Z:Int}{c:aY}{got sent waits:Int}(h:OneAt w0 B H w xb sb g N M L Z c got sent waits)(hE:Env w0)(hB0:w0.heap.size<=B)(hg:bM g)(hZ:Z<=400000000)(hsl:c.strs.length<=400000000)(hs0:0<c.strs.length)(hol:c.old.length<=900000000)(hM0:0<=M)(hM:M<=90000000000000)(hN:N<=90000000000000)(kd aa bb cc:Int)(ha:-9223372036854775808<=aa/\aa<=9223372036854775807)(hb:-9223372036854775808<=bb/\bb<=9223372036854775807)(hc:-9223372036854775808<=cc/\cc<=9223372036854775807):
  Calls Tryz.prog 15 #[.pointer (some ⟨xb,0,none⟩),.agg #[.int .i64 kd,.int .i64 aa,.int .i64 bb,.int .i64 cc]] w fun e w'=>e=.returned (.tuple #[])/\Chg H w w'/\∃H',OneAt w0 B H' w' xb sb g (N+1200) (M+1200) (L+2) (Z+11) (eE g c kd aa bb cc) (got+gQ c (eE g c kd aa bb cc)+eK c kd bb) (sent+gy g c kd aa bb) waits/\∀k,H' k->H k\/w.heap.size<=k:=by
 obtain⟨v0,v1,v2,v3,v4,v5,v6,F,s,h1,h2,h3,h4,h5⟩:=h.ex
 obtain⟨os,hC,_,_⟩:=h1.ex
 have hBw:B<=w.heap.size:=by
  have q1:=hC.low
  have q2:=(aLt hC.blk)
  omega
 obtain⟨i1,_,_,_⟩:=vM hg h.inv (by omega) (by omega) kd aa bb cc
 refine(kstep_any hE h1 h2 hB0 hBw hg h4 h3 h.inv hZ hsl hs0 hol hM0 hM hN kd aa bb cc ha hb hc).mono ?_
 rintro e w' ⟨rfl,hs⟩
 obtain⟨s',got',sent',hd,hat,hsc,rfl,rfl⟩:=hs.ex
 obtain⟨u0,u1,u2,u3,u4,u5,u6,F',d1,d2,d3⟩:=hd.ex
 refine⟨rfl,hd.chg.mono (fun k _ hk=>(h5 k).1 hk),fun k=>F' k\/bO xb u0 u1 u2 u3 u4 u5 u6 k,⟨⟨u0,u1,u2,u3,u4,u5,u6,F',s',d1,d2,hat,hsc,fun _=>Iff.rfl⟩,i1⟩,fun k hk=>(d3 k hk).imp (h5 k).1 id⟩
theorem OneAt.look{w0:World}{B:Nat}{H:Nat->Prop}{w:World}{xb sb:Nat}{g:Cfg}{N:Nat}{M L Z:Int}{c:aY}{got sent waits:Int}(h:OneAt w0 B H w xb sb g N M L Z c got sent waits):
  Calls Tryz.prog 16 #[.pointer (some ⟨sb,0,none⟩),.int .i64 300] w fun e w'=>e=.returned (.tuple #[.agg #[.bool true,.int .i64 got,.int .i64 sent,.int .i64 c.credit,.int .i64 (c.strs.length:Int),.int .i64 (lx (cX c.strs))],.int .i64 0])/\Below w.heap.size w w':=by
 obtain⟨v0,v1,v2,v3,v4,v5,v6,F,s,h1,h2,h3,h4⟩:=h.ex
 refine(h2.live.look 300 (by decide)).mono ?_
 rintro e w' ⟨rfl,hb⟩
 rw[look_K h3]
 refine⟨?_,hb⟩
 simp only[pF,bq,gD]
theorem OneAt.recv [LoM] {w0:World}{B:Nat}{H:Nat->Prop}{w:World}{xb sb:Nat}{g:Cfg}{N:Nat}{M L Z:Int}{c:aY}{got sent waits:Int}(h:OneAt w0 B H w xb sb g N M L Z c got sent waits)(hE:Env w0){a:Int}(ha:a≠1){b:List Int}{bv:Value}(hbv:RdB w bv b)(hl:b.length<=1048576)(hM0:0<=M)(hM:M<=90000000000000)(hN:N<=90000000000000):
  Calls Tryz.prog 20 #[.pointer (some ⟨sb,0,none⟩),.int .i64 a,bv] w fun e w'=>(∃va vn vc outs,e=.returned (.slice va vn vc)/\(∃bo,OutsAt w' bo (.slice va vn vc) outs)/\∀o∈outs,o.1=a)/\Chg H w w'/\∃H',OneAt w0 B H' w' xb sb g (N+1+b.length) (M+b.length+100) (L+2) Z c got sent waits/\∀k,H' k->H k\/w.heap.size<=k:=by
 obtain⟨v0,v1,v2,v3,v4,v5,v6,F,s,h1,h2,h3,h4,h5⟩:=h.ex
 have ho:=recv_other h3.at_ (a:=a) (fun e=>ha e.symm) b
 refine(h2.receive hE a hbv (by omega) hM0 (by omega) (by omega)).mono ?_
 rintro e w' ⟨⟨v,rfl,hO⟩,hmo⟩
 obtain⟨va,vc,rfl⟩:=hO.form
 obtain⟨F',hL,hin⟩:=hmo.ex
 refine⟨⟨va,_,vc,_,rfl,⟨_,hO⟩,ho.outs (fun o q=>by cases q)⟩,hmo.chg.mono (fun k _ hk=>(h5 k).1 (Or.inl hk)),fun k=>F' k\/bO xb v0 v1 v2 v3 v4 v5 v6 k,⟨⟨v0,v1,v2,v3,v4,v5,v6,F',_,h1.srv h2 hmo.chg,hL,o4 (by rw[ho.at_];exact h3.at_) rfl (by rw[ho.now];exact h3.now),by rw[ho.cfg];exact h4,fun _=>Iff.rfl⟩,h.inv⟩,fun k hk=>?_⟩
 rcases hk with hk|hk
 ·exact(hin k hk).imp (fun q=>(h5 k).1 (Or.inl q)) id
 ·exact Or.inl ((h5 k).1 (Or.inr hk))
theorem OneAt.accept{w0:World}{B:Nat}{H:Nat->Prop}{w:World}{xb sb:Nat}{g:Cfg}{N:Nat}{M L Z:Int}{c:aY}{got sent waits:Int}(h:OneAt w0 B H w xb sb g N M L Z c got sent waits):
  Calls Tryz.prog 21 #[.pointer (some ⟨sb,0,none⟩)] w fun e w'=>(∃n f,e=.returned (.tuple #[.int .i64 n,.int .i64 f]))/\Chg H w w'/\∃H' waits',OneAt w0 B H' w' xb sb g N M L Z c got sent waits'/\∀k,H' k->H k\/w.heap.size<=k:=by
 obtain⟨v0,v1,v2,v3,v4,v5,v6,F,s,h1,h2,h3,h4,h5⟩:=h.ex
 obtain⟨a1,a2,a3⟩:=sK h3.at_
 refine h2.accept.mono ?_
 rintro e w' ⟨rfl,hmo⟩
 obtain⟨F',hL,hin⟩:=hmo.ex
 obtain⟨wt,hat⟩:∃wt,AtK (bW s).2.2 0 (bq c got sent wt):=by
  rcases a1 with a1|a1
  ·exact⟨waits,o4 a1 rfl (by rw[a2];exact h3.now)⟩
  ·exact⟨0,o4 a1 rfl (by rw[a2];exact h3.now)⟩
 refine⟨⟨_,_,rfl⟩,hmo.chg.mono (fun k _ hk=>(h5 k).1 (Or.inl hk)),fun k=>F' k\/bO xb v0 v1 v2 v3 v4 v5 v6 k,wt,⟨⟨v0,v1,v2,v3,v4,v5,v6,F',_,h1.srv h2 hmo.chg,hL,hat,by rw[a3];exact h4,fun _=>Iff.rfl⟩,h.inv⟩,fun k hk=>?_⟩
 rcases hk with hk|hk
 ·exact(hin k hk).imp (fun q=>(h5 k).1 (Or.inl q)) id
 ·exact Or.inl ((h5 k).1 (Or.inr hk))
structure KSt where
 N:Nat
 M:Int
 L:Int
 Z:Int
 c:aY
 got:Int
 sent:Int
def KSt.step(g:Cfg)(kd aa bb cc:Int)(p:KSt):KSt:=⟨p.N+1200,p.M+1200,p.L+2,p.Z+11,eE g p.c kd aa bb cc,p.got+gQ p.c (eE g p.c kd aa bb cc)+eK p.c kd bb,p.sent+gy g p.c kd aa bb⟩
def KSt.recv(n:Nat)(p:KSt):KSt:=⟨p.N+1+n,p.M+n+100,p.L+2,p.Z,p.c,p.got,p.sent⟩
structure KSt.Ok(p:KSt):Prop where
 Z:p.Z<=400000000
 len:0<p.c.strs.length/\p.c.strs.length<=400000000
 old:p.c.old.length<=900000000
 M:0<=p.M/\p.M<=90000000000000
 N:p.N<=90000000000000
structure PairK(w0:World)(B:Nat)(w:World)(xb sb yb tb:Nat)(g:Cfg)(p q:KSt):Prop where
 ex:∃Hx Hy wx wy,OneAt w0 B Hx w xb sb g p.N p.M p.L p.Z p.c p.got p.sent wx/\OneAt w0 B Hy w yb tb g q.N q.M q.L q.Z q.c q.got q.sent wy/\∀k,Hx k->¬Hy k
theorem PairK.swap{w0:World}{B:Nat}{w:World}{xb sb yb tb:Nat}{g:Cfg}{p q:KSt}(h:PairK w0 B w xb sb yb tb g p q):PairK w0 B w yb tb xb sb g q p:=by
 obtain⟨Hx,Hy,wx,wy,h1,h2,h3⟩:=h.ex
 exact⟨Hy,Hx,wy,wx,h2,h1,fun k hy hx=>h3 k hx hy⟩
theorem PairK.bel{w0:World}{B:Nat}{w:World}{xb sb yb tb:Nat}{g:Cfg}{p q:KSt}(h:PairK w0 B w xb sb yb tb g p q):Below w0.heap.size w0 w:=by
 obtain⟨Hx,Hy,wx,wy,h1,h2,h3⟩:=h.ex
 exact h1.bel
theorem PairK.ok{w0:World}{B:Nat}{w:World}{xb sb yb tb:Nat}{g:Cfg}{p q:KSt}(h:PairK w0 B w xb sb yb tb g p q):KInv g p.Z p.c:=by
 obtain⟨Hx,Hy,wx,wy,h1,h2,h3⟩:=h.ex
 exact h1.inv
theorem PairK.below{w0:World}{B:Nat}{w w':World}{xb sb yb tb:Nat}{g:Cfg}{p q:KSt}(h:PairK w0 B w xb sb yb tb g p q)(hb:Below w.heap.size w w'):PairK w0 B w' xb sb yb tb g p q:=by
 obtain⟨Hx,Hy,wx,wy,h1,h2,h3⟩:=h.ex
 exact⟨Hx,Hy,wx,wy,h1.below hb,h2.below hb,h3⟩
theorem PairK.cells{w0:World}{B:Nat}{w:World}{xb sb yb tb:Nat}{g:Cfg}{p q:KSt}(h:PairK w0 B w xb sb yb tb g p q):w.cell? ⟨xb,0,none⟩= some (.pointer (some ⟨sb,0,none⟩))/\w.cell? ⟨xb,11,none⟩= some (.bool true)/\w.cell? ⟨yb,0,none⟩= some (.pointer (some ⟨tb,0,none⟩))/\w.cell? ⟨yb,11,none⟩= some (.bool true):=by
 obtain⟨Hx,Hy,wx,wy,h1,h2,h3⟩:=h.ex
 exact⟨h1.cells.1,h1.cells.2,h2.cells.1,h2.cells.2⟩
theorem nI{w0:World}{B:Nat}{w w':World}{xb sb yb tb:Nat}{g:Cfg}{p p' q:KSt}{Hx Hy Hx':Nat->Prop}{wx wy wx':Int}(hB0:w0.heap.size<=B)(h1:OneAt w0 B Hx w xb sb g p.N p.M p.L p.Z p.c p.got p.sent wx)(h2:OneAt w0 B Hy w yb tb g q.N q.M q.L q.Z q.c q.got q.sent wy)(h3:∀k,Hx k->¬Hy k)(hc:Chg Hx w w')(h4:OneAt w0 B Hx' w' xb sb g p'.N p'.M p'.L p'.Z p'.c p'.got p'.sent wx')(h5:∀k,Hx' k->Hx k\/w.heap.size<=k):PairK w0 B w' xb sb yb tb g p' q:=
 ⟨Hx',Hy,wx',wy,h4,h2.other hc (fun k hy hx=>h3 k hx hy) (fun k cur fr hk hx=>(h1.lies hB0 hx).2.2 cur fr hk) (fun k hx=>(h1.lies hB0 hx).1),fun k hk hy=>by
  rcases h5 k hk with e|e
  ·exact h3 k e hy
  ·have:=(h2.lies hB0 hy).2.1
   omega⟩
theorem PairK.step [LoM] {w0:World}{B:Nat}{w:World}{xb sb yb tb:Nat}{g:Cfg}{p q:KSt}(h:PairK w0 B w xb sb yb tb g p q)(hE:Env w0)(hB0:w0.heap.size<=B)(hg:bM g)(hp:p.Ok)(kd aa bb cc:Int)(ha:-9223372036854775808<=aa/\aa<=9223372036854775807)(hb:-9223372036854775808<=bb/\bb<=9223372036854775807)(hc:-9223372036854775808<=cc/\cc<=9223372036854775807):
  Calls Tryz.prog 15 #[.pointer (some ⟨xb,0,none⟩),.agg #[.int .i64 kd,.int .i64 aa,.int .i64 bb,.int .i64 cc]] w fun e w'=>e=.returned (.tuple #[])/\PairK w0 B w' xb sb yb tb g (p.step g kd aa bb cc) q:=by
 obtain⟨Hx,Hy,wx,wy,h1,h2,h3⟩:=h.ex
 refine(h1.step hE hB0 hg hp.Z hp.len.2 hp.len.1 hp.old hp.M.1 hp.M.2 hp.N kd aa bb cc ha hb hc).mono ?_
 rintro e w' ⟨rfl,hch,H',h4,h5⟩
 exact⟨rfl,nI hB0 h1 h2 h3 hch h4 h5⟩
theorem PairK.recv [LoM] {w0:World}{B:Nat}{w:World}{xb sb yb tb:Nat}{g:Cfg}{p q:KSt}(h:PairK w0 B w xb sb yb tb g p q)(hE:Env w0)(hB0:w0.heap.size<=B)(hp:p.Ok){a:Int}(ha:a≠1){b:List Int}{bv:Value}(hbv:RdB w bv b)(hl:b.length<=1048576):
  Calls Tryz.prog 20 #[.pointer (some ⟨sb,0,none⟩),.int .i64 a,bv] w fun e w'=>(∃va vn vc outs,e=.returned (.slice va vn vc)/\(∃bo,OutsAt w' bo (.slice va vn vc) outs)/\∀o∈outs,o.1=a)/\PairK w0 B w' xb sb yb tb g (p.recv b.length) q:=by
 obtain⟨Hx,Hy,wx,wy,h1,h2,h3⟩:=h.ex
 refine(h1.recv hE ha hbv hl hp.M.1 hp.M.2 hp.N).mono ?_
 rintro e w' ⟨ho,hch,H',h4,h5⟩
 exact⟨ho,nI hB0 h1 h2 h3 hch h4 h5⟩
theorem PairK.accept{w0:World}{B:Nat}{w:World}{xb sb yb tb:Nat}{g:Cfg}{p q:KSt}(h:PairK w0 B w xb sb yb tb g p q)(hB0:w0.heap.size<=B){bo:Nat}{ov:Value}{outs:List (Int×List Int)}(hO:OutsAt w bo ov outs):
  Calls Tryz.prog 21 #[.pointer (some ⟨sb,0,none⟩)] w fun e w'=>(∃n f,e=.returned (.tuple #[.int .i64 n,.int .i64 f]))/\OutsAt w' bo ov outs/\PairK w0 B w' xb sb yb tb g p q:=by
 obtain⟨Hx,Hy,wx,wy,h1,h2,h3⟩:=h.ex
 refine h1.accept.mono ?_
 rintro e w' ⟨ho,hch,H',wt,h4,h5⟩
 refine⟨ho,hO.chg hch (fun k cur fr hk hx=>h1.lies9 hx cur fr hk) (fun k cur fr hk hx=>(h1.lies hB0 hx).2.2 cur fr hk),nI hB0 h1 h2 h3 hch h4 h5⟩
theorem PairK.look{w0:World}{B:Nat}{w:World}{xb sb yb tb:Nat}{g:Cfg}{p q:KSt}(h:PairK w0 B w xb sb yb tb g p q):
  Calls Tryz.prog 16 #[.pointer (some ⟨sb,0,none⟩),.int .i64 300] w fun e w'=>e=.returned (.tuple #[.agg #[.bool true,.int .i64 p.got,.int .i64 p.sent,.int .i64 p.c.credit,.int .i64 (p.c.strs.length:Int),.int .i64 (lx (cX p.c.strs))],.int .i64 0])/\Below w.heap.size w w':=by
 obtain⟨Hx,Hy,wx,wy,h1,h2,h3⟩:=h.ex
 exact h1.look
theorem PairK.mono{w0:World}{B:Nat}{w:World}{xb sb yb tb:Nat}{g:Cfg}{p p' q q':KSt}(h:PairK w0 B w xb sb yb tb g p q)(h1:p.N<=p'.N/\p.M<=p'.M/\p.L<=p'.L/\p.Z<=p'.Z)(h2:p'.c=p.c/\p'.got=p.got/\p'.sent=p.sent)(h3:q.N<=q'.N/\q.M<=q'.M/\q.L<=q'.L/\q.Z<=q'.Z)(h4:q'.c=q.c/\q'.got=q.got/\q'.sent=q.sent):PairK w0 B w xb sb yb tb g p' q':=by
 obtain⟨Hx,Hy,wx,wy,q1,q2,q3⟩:=h.ex
 refine⟨Hx,Hy,wx,wy,?_,?_,q3⟩
 ·rw[h2.1,h2.2.1,h2.2.2]
  exact q1.mono h1.1 h1.2.1 h1.2.2.1 h1.2.2.2
 ·rw[h4.1,h4.2.1,h4.2.2]
  exact q2.mono h3.1 h3.2.1 h3.2.2.1 h3.2.2.2
end Go.Proofs.YthmdjhlhodpbhaaGreatDoor
