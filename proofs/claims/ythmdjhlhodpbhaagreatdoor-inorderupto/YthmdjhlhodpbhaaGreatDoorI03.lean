/- InOrder, 3 -/
import Derived.Laws.CopyRow
import Derived.Deep.WholeRow
import Derived.Deep.QuietTactic
import Derived.BigQuiet
import Derived.Laws.BytesArg
import Derived.Laws.AppendOwnNone
import Derived.Test.YthmdjhlhodpbhaaGreatDoorI00
import Derived.Test.YthmdjhlhodpbhaaGreatDoorI01
import Derived.Test.YthmdjhlhodpbhaaGreatDoorI02
set_option maxHeartbeats 16000000
set_option maxRecDepth 8000
namespace Go.Proofs.YthmdjhlhodpbhaaGreatDoor
open Go.RowKit
theorem wslice_low{P:Program}(W:World){t e:TypeId}{size:Nat}{ao:Option Addr}{len cap i:Nat}(ht:P.underlying t=some (.slice e))(hs:(Go.sizeOf e).run P W=.ok size W)(hi:i<=len):
  (Instr.slice t (.slice ao len cap) (some (.int .i64 (i:Int))) none none).run P W=.ok (.slice (if cap=i then ao else ao.map (·.add (i*size))) (len-i) (cap-i)) W:=by
 simp[Instr.slice,Instr.sliceBounds,Instr.sliceBound,asIntOf,run_underlying ht,hs,hi]
theorem wsizeOf_u8(w:World):(Go.sizeOf 5).run Tryz.prog w=.ok 1 w:=by kernel_rfl
def NErr(w:World):Nat->Value->Prop
 |0,v=>∃e:Nat,v=.iface 158 (.pointer (some ⟨e,0,none⟩))
 |k+1,v=>∃(h:Nat) (s c:Value),v=.iface 155 (.pointer (some ⟨h,0,none⟩))/\w.heap[h]? =some (.cells #[s,c] 157 (0,0))/\NErr w k c
theorem NErr.chg{F:Nat->Prop}{w w':World}(hc:Chg F w w')(hF:∀k cur fr,w.heap[k]? =some (.cells cur 157 fr)->¬F k):∀{k:Nat} {v:Value},NErr w k v->NErr w' k v
 |0,v,h=>h
 |k+1,v,⟨h,s,c,e,hb,hn⟩=>⟨h,s,c,e,by rw[hc.block h (Array.getElem?_eq_some_iff.1 hb).1 (hF h _ _ hb)];exact hb,NErr.chg hc hF hn⟩
theorem NErr.below{w w':World}{k:Nat}{v:Value}(h:NErr w k v)(hb:Below w.heap.size w w'):NErr w' k v:=h.chg (F:=fun _=>False) (Chg.of_below hb) (fun _ _ _ _ h=>h)
theorem NErr.form{w:World}{k:Nat}{v:Value}(h:NErr w k v):∃t p,v=.iface t p/\(t=158\/t=155):=by
 cases k with
 |zero=>obtain⟨e,rfl⟩:=h;exact⟨_,_,rfl,Or.inl rfl⟩
 |succ k=>obtain⟨h,s,c,rfl,_⟩:=h;exact⟨_,_,rfl,Or.inr rfl⟩
theorem cell1_of{w:World}{h:Nat}{s c:Value}(hb:w.heap[h]? =some (.cells #[s,c] 157 (0,0))):w.cell? ⟨h,1,none⟩= some c:=by
 simp only[World.cell?,hb]
 rfl
theorem IsNone_err(k:Nat)(v:Value)(w:World)(he:Env w)(hk:k=1\/k=2\/k=3)(h:NErr w k v):
  Calls Tryz.prog 46 #[v] w fun e w'=>e=.returned (.bool true)/\Below w.heap.size w w':=by
 have hb1:Below w.heap.size w (w.alloc (.cells #[.pointer none] 158)):=af w _
 have HA:Hid (Calls Tryz.prog 87 #[v,.iface 160 (.pointer (some ⟨w.heap.size,0,none⟩))] (w.alloc (.cells #[.pointer none] 158)) fun ev w'=>ev=.returned (.bool true)/\Below w.heap.size (w.alloc (.cells #[.pointer none] 158)) w'):=by
  rcases hk with rfl|rfl|rfl
  ·obtain⟨h1,s1,c1,rfl,b1,g,rfl⟩:=h
   exact As_within h1 ⟨g,0,none⟩ ⟨w.heap.size,0,none⟩ _ (ae he.2 hb1) (ae (cell1_of b1) hb1) (by simp) (by simp)
  ·obtain⟨h1,s1,c1,rfl,b1,h2,s2,c2,rfl,b2,g,rfl⟩:=h
   exact As_within2 h1 h2 ⟨g,0,none⟩ ⟨w.heap.size,0,none⟩ _ (ae he.2 hb1) (ae (cell1_of b1) hb1) (ae (cell1_of b2) hb1) (by simp) (by simp)
  ·obtain⟨h1,s1,c1,rfl,b1,h2,s2,c2,rfl,b2,h3,s3,c3,rfl,b3,g,rfl⟩:=h
   exact As_within3 h1 h2 h3 ⟨g,0,none⟩ ⟨w.heap.size,0,none⟩ _ (ae he.2 hb1) (ae (cell1_of b1) hb1) (ae (cell1_of b2) hb1) (ae (cell1_of b3) hb1) (by simp) (by simp)
 obtain⟨t,p,rfl,_⟩:=h.form
 clear h he
 go_enter Tryz.func46,Tryz.ntmps46
 go_wp2_with fail
 refine HA.out.mono ?_
 rintro e w2 ⟨rfl,hb2⟩
 have hb3:Below w.heap.size w w2:=hb1.trans hb2
 clear hb1 hb2 HA
 go_wp2_with fail
 go_ret
 exact⟨rfl,hb3⟩
def RdB(w:World)(v:Value)(l:List Int):Prop:=
 Bytes l/\l.length<=140737488355328/\∃ao cap,v=.slice ao l.length cap/\l.length<=cap/\cap<=9223372036854775807/\(ao=none->cap=0)/\(0<l.length->∃b off cur fr,ao=some ⟨b,off,none⟩/\w.heap[b]? =some (.cells cur 5 fr)/\∀j,j<l.length->cur[off+j]? =some (.int .u8 (l.getD j 0)))
theorem RdB.nil(w:World):RdB w (.slice none 0 0) []:=⟨fun x hx=>(by cases hx),by simp,none,0,rfl,by simp,by simp,fun _=>rfl,fun h=>absurd h (by simp)⟩
theorem RdB.chg{F:Nat->Prop}{w w':World}{v:Value}{l:List Int}(h:RdB w v l)(hc:Chg F w w')(hF:∀k cur fr,w.heap[k]? =some (.cells cur 5 fr)->¬F k):RdB w' v l:=by
 obtain⟨h1,h2,ao,cap,e,h3,h4,h5,h6⟩:=h
 refine⟨h1,h2,ao,cap,e,h3,h4,h5,fun hp=>?_⟩
 obtain⟨b,off,cur,fr,e1,hb,hj⟩:=h6 hp
 exact⟨b,off,cur,fr,e1,by rw[hc.block b (Array.getElem?_eq_some_iff.1 hb).1 (hF b cur fr hb)];exact hb,hj⟩
theorem RdB.below{w w':World}{v:Value}{l:List Int}(h:RdB w v l)(hb:Below w.heap.size w w'):RdB w' v l:=h.chg (F:=fun _=>False) (Chg.of_below hb) (fun _ _ _ _ h=>h)
theorem RdB.cell{w:World}{l:List Int}{b off cap:Nat}(h:RdB w (.slice (some ⟨b,off,none⟩) l.length cap) l)(j:Nat)(hj:j<l.length):w.cell? ⟨b,off+j,none⟩= some (.int .u8 (l.getD j 0)):=by
 obtain⟨_,_,ao,cap',e,_,_,_,h6⟩:=h
 simp only[Value.slice.injEq]at e
 obtain⟨rfl,_,rfl⟩:=e
 obtain⟨b',off',cur,fr,e2,hb,hj'⟩:=h6 (by omega)
 simp only[Option.some.injEq,Addr.mk.injEq,and_true]at e2
 obtain⟨rfl,rfl⟩:=e2
 simp only[World.cell?,hb]
 exact hj' j hj
theorem RdB.reads{w:World}{v:Value}{l:List Int}(h:RdB w v l):Reads w v l:=by
 obtain⟨h1,h2,ao,cap,rfl,h3,h4,h5,h6⟩:=id h
 refine⟨h1,h2,?_⟩
 rcases Nat.eq_zero_or_pos l.length with h0|h0
 ·exact Or.inl ⟨List.length_eq_zero_iff.1 h0,ao,cap,by rw[h0]⟩
 ·obtain⟨b,off,cur,fr,rfl,_,_⟩:=h6 h0
  exact Or.inr ⟨h0,b,off,cap,rfl,h3,fun j hj=>h.cell j hj⟩
theorem RdB.ro{w:World}{v:Value}{l:List Int}(h:RdB w v l):Ro w 5 v l.length (U8 l):=by
 obtain⟨h1,h2,ao,cap,rfl,h3,h4,h5,h6⟩:=h
 refine⟨ao,cap,rfl,fun hp=>?_,h5⟩
 obtain⟨b,off,cur,fr,e,hb,hj⟩:=h6 hp
 refine⟨b,off,cur,fr,e,hb,fun j hjl=>?_⟩
 rw[bP]at hjl
 rw[hj j hjl]
 simp[U8,List.getElem?_eq_getElem hjl,List.getD]
theorem RdB.drop{w:World}{v:Value}{l:List Int}(h:RdB w v l){k:Nat}(hk:k<=l.length):∃tv,RdB w tv (l.drop k)/\(∃ao cap,tv=.slice ao (l.length-k) cap)/\∀W:World,(Instr.slice 44 v (some (.int .i64 (k:Int))) none none).run Tryz.prog W=.ok tv W:=by
 obtain⟨h1,h2,ao,cap,rfl,h3,h4,h5,h6⟩:=h
 have hrun:∀W:World,(Instr.slice 44 (.slice ao l.length cap) (some (.int .i64 (k:Int))) none none).run Tryz.prog W=.ok (.slice (if cap=k then ao else ao.map (·.add (k*1))) (l.length-k) (cap-k)) W:=fun W=>wslice_low W Tryz.underlying44 (wsizeOf_u8 W) hk
 refine⟨_,?_,⟨_,_,rfl⟩,hrun⟩
 have hl:(l.drop k).length=l.length-k:=by simp
 refine⟨h1.drop k,by omega,_,_,by rw[hl],by omega,by omega,?_,fun hp=>?_⟩
 ·intro hn
  by_cases hck:cap=k
  ·omega
  ·rw[if_neg hck]at hn
   cases ao with
   |none=>have:=h5 rfl;omega
   |some a=>simp at hn
 ·obtain⟨b,off,cur,fr,rfl,hb,hj⟩:=h6 (by omega)
  refine⟨b,off+k,cur,fr,?_,hb,fun j hjl=>?_⟩
  ·rw[if_neg (by omega)]
   simp[Addr.add_lit]
  ·rw[Nat.add_assoc,hj (k+j) (by omega)]
   simp[List.getD,List.getElem?_drop]
theorem RdB.take{w:World}{v:Value}{l:List Int}(h:RdB w v l){k:Nat}(hk:k<=l.length):∃tv,RdB w tv (l.take k)/\(∃ao cap,tv=.slice ao k cap/\(0<k->∃b off,ao=some ⟨b,off,none⟩))/\∀W:World,(Instr.slice 44 v none (some (.int .i64 (k:Int))) none).run Tryz.prog W=.ok tv W:=by
 obtain⟨h1,h2,ao,cap,rfl,h3,h4,h5,h6⟩:=h
 have hl:(l.take k).length=k:=by simp;omega
 refine⟨.slice ao k cap,⟨h1.take k,by omega,ao,cap,by rw[hl],by omega,h4,h5,fun hp=>?_⟩,⟨ao,cap,rfl,fun hp=>?_⟩,fun W=>?_⟩
 ·obtain⟨b,off,cur,fr,e,hb,hj⟩:=h6 (by omega)
  refine⟨b,off,cur,fr,e,hb,fun j hjl=>?_⟩
  rw[hj j (by omega)]
  have:j<k:=by omega
  simp[List.getD,this]
 ·obtain⟨b,off,cur,fr,e,_⟩:=h6 (by omega)
  exact⟨b,off,e⟩
 ·have hkc:k<=cap:=Nat.le_trans hk h3
  have hid:Option.map (fun x:Addr=>x.add 0) ao=ao:=by
   cases ao with
   |none=>rfl
   |some a=>simp[Addr.add]
  by_cases hc0:cap=0
  ·subst hc0
   simp[Instr.slice,Instr.sliceBounds,Instr.sliceBound,asIntOf,run_underlying Tryz.underlying44,wsizeOf_u8 W,hkc]
  ·simp[Instr.slice,Instr.sliceBounds,Instr.sliceBound,asIntOf,run_underlying Tryz.underlying44,wsizeOf_u8 W,hkc,hc0,hid]
theorem wpList_store_new{P:Program}{w:World}{ops:Array Oper}{rest:List Oper}{o:Oper}{a:Act}{Q:Exit->Act->World->Prop}(hgd:o.guard=none)(ty:TypeId)(x y:Operand)(ho:o.op=.store ty x y)(hd:o.dst=none)
  (cells:Array Value) (g:Nat) (hgs:g=w.heap.size) (hx:a.eval x=.pointer (some ⟨g,0,none⟩)) (hy:a.eval y=.agg cells)
  (t:TypeId) (old:Array Value) (hi:(P.info? ty).map (·.size)=some cells.size) (hold:old.size=cells.size) (h1:cells.all (·.oneCell')=true)
  (h:wpList P ops Q rest a (w.alloc (.cells cells t))):wpList P ops Q (o::rest) a (w.alloc (.cells old t)):=by
 subst hgs
 refine wpList_store_row hgd ty x y ho w.heap.size cells hx hy t old (heap_alloc_last w _) hi hold h1 ?_
 rw[hd,World.setRow_alloc_new]
 exact h
theorem heap_two(w:World)(A B:Obj):((w.alloc A).alloc B).heap[w.heap.size+1]? =some B:=by
 have:=heap_alloc_last (w.alloc A) B
 rwa [World.size_alloc]at this
def cH(c0 c1 c2 c3 c4 c5 c6 c7 c8 c9:Int):Array Value:=
 #[.int .i64 c0,.int .i64 1,.int .i64 8,.int .i64 c1,.int .i64 8,.int .i64 4096,.int .i64 c2,.int .i64 8,.int .i64 c1,.int .i64 c3,.int .i64 1,.int .i64 8,.int .i64 c4,.int .i64 1,.int .i64 8,
  .int .i64 c5,.int .i64 0,.int .i64 8,.int .i64 c6,.int .i64 1,.int .i64 1000,.int .i64 c7,.int .i64 1,.int .i64 1000,.int .i64 c8,.int .i64 0,.int .i64 100000,.int .i64 c9,.int .i64 0,.int .i64 4294967295]
theorem confCells_one(c0 c1 c2 c3 c4 c5 c6 c7 c8 c9:Int):(cH c0 c1 c2 c3 c4 c5 c6 c7 c8 c9).all (·.oneCell')=true:=by kernel_rfl
theorem info_fields:(Tryz.prog.info? 171).map (·.size)=some 30:=by kernel_rfl
theorem index_at0(c0 c1 c2 c3 c4 c5 c6 c7 c8 c9:Int)(w:World):(Instr.index 171 (.agg (cH c0 c1 c2 c3 c4 c5 c6 c7 c8 c9)) (.int .i64 ((0:Nat):Int))).run Tryz.prog w=.ok (.agg #[.int .i64 (valAt c0 c1 c2 c3 c4 c5 c6 c7 c8 c9 0),.int .i64 (loAt 0),.int .i64 (hiAt c1 0)]) w:=by kernel_rfl
theorem index_at1(c0 c1 c2 c3 c4 c5 c6 c7 c8 c9:Int)(w:World):(Instr.index 171 (.agg (cH c0 c1 c2 c3 c4 c5 c6 c7 c8 c9)) (.int .i64 ((1:Nat):Int))).run Tryz.prog w=.ok (.agg #[.int .i64 (valAt c0 c1 c2 c3 c4 c5 c6 c7 c8 c9 1),.int .i64 (loAt 1),.int .i64 (hiAt c1 1)]) w:=by kernel_rfl
theorem index_at2(c0 c1 c2 c3 c4 c5 c6 c7 c8 c9:Int)(w:World):(Instr.index 171 (.agg (cH c0 c1 c2 c3 c4 c5 c6 c7 c8 c9)) (.int .i64 ((2:Nat):Int))).run Tryz.prog w=.ok (.agg #[.int .i64 (valAt c0 c1 c2 c3 c4 c5 c6 c7 c8 c9 2),.int .i64 (loAt 2),.int .i64 (hiAt c1 2)]) w:=by kernel_rfl
theorem index_at3(c0 c1 c2 c3 c4 c5 c6 c7 c8 c9:Int)(w:World):(Instr.index 171 (.agg (cH c0 c1 c2 c3 c4 c5 c6 c7 c8 c9)) (.int .i64 ((3:Nat):Int))).run Tryz.prog w=.ok (.agg #[.int .i64 (valAt c0 c1 c2 c3 c4 c5 c6 c7 c8 c9 3),.int .i64 (loAt 3),.int .i64 (hiAt c1 3)]) w:=by kernel_rfl
theorem index_at4(c0 c1 c2 c3 c4 c5 c6 c7 c8 c9:Int)(w:World):(Instr.index 171 (.agg (cH c0 c1 c2 c3 c4 c5 c6 c7 c8 c9)) (.int .i64 ((4:Nat):Int))).run Tryz.prog w=.ok (.agg #[.int .i64 (valAt c0 c1 c2 c3 c4 c5 c6 c7 c8 c9 4),.int .i64 (loAt 4),.int .i64 (hiAt c1 4)]) w:=by kernel_rfl
theorem index_at5(c0 c1 c2 c3 c4 c5 c6 c7 c8 c9:Int)(w:World):(Instr.index 171 (.agg (cH c0 c1 c2 c3 c4 c5 c6 c7 c8 c9)) (.int .i64 ((5:Nat):Int))).run Tryz.prog w=.ok (.agg #[.int .i64 (valAt c0 c1 c2 c3 c4 c5 c6 c7 c8 c9 5),.int .i64 (loAt 5),.int .i64 (hiAt c1 5)]) w:=by kernel_rfl
theorem index_at6(c0 c1 c2 c3 c4 c5 c6 c7 c8 c9:Int)(w:World):(Instr.index 171 (.agg (cH c0 c1 c2 c3 c4 c5 c6 c7 c8 c9)) (.int .i64 ((6:Nat):Int))).run Tryz.prog w=.ok (.agg #[.int .i64 (valAt c0 c1 c2 c3 c4 c5 c6 c7 c8 c9 6),.int .i64 (loAt 6),.int .i64 (hiAt c1 6)]) w:=by kernel_rfl
theorem index_at7(c0 c1 c2 c3 c4 c5 c6 c7 c8 c9:Int)(w:World):(Instr.index 171 (.agg (cH c0 c1 c2 c3 c4 c5 c6 c7 c8 c9)) (.int .i64 ((7:Nat):Int))).run Tryz.prog w=.ok (.agg #[.int .i64 (valAt c0 c1 c2 c3 c4 c5 c6 c7 c8 c9 7),.int .i64 (loAt 7),.int .i64 (hiAt c1 7)]) w:=by kernel_rfl
theorem index_at8(c0 c1 c2 c3 c4 c5 c6 c7 c8 c9:Int)(w:World):(Instr.index 171 (.agg (cH c0 c1 c2 c3 c4 c5 c6 c7 c8 c9)) (.int .i64 ((8:Nat):Int))).run Tryz.prog w=.ok (.agg #[.int .i64 (valAt c0 c1 c2 c3 c4 c5 c6 c7 c8 c9 8),.int .i64 (loAt 8),.int .i64 (hiAt c1 8)]) w:=by kernel_rfl
theorem index_at9(c0 c1 c2 c3 c4 c5 c6 c7 c8 c9:Int)(w:World):(Instr.index 171 (.agg (cH c0 c1 c2 c3 c4 c5 c6 c7 c8 c9)) (.int .i64 ((9:Nat):Int))).run Tryz.prog w=.ok (.agg #[.int .i64 (valAt c0 c1 c2 c3 c4 c5 c6 c7 c8 c9 9),.int .i64 (loAt 9),.int .i64 (hiAt c1 9)]) w:=by kernel_rfl
theorem index_at(c0 c1 c2 c3 c4 c5 c6 c7 c8 c9:Int)(k:Nat)(hk:k<10)(w:World):
  (Instr.index 171 (.agg (cH c0 c1 c2 c3 c4 c5 c6 c7 c8 c9)) (.int .i64 k)).run Tryz.prog w=.ok (.agg #[.int .i64 (valAt c0 c1 c2 c3 c4 c5 c6 c7 c8 c9 k),.int .i64 (loAt k),.int .i64 (hiAt c1 k)]) w:=by
 match k,hk with
 |0,_=>exact index_at0 c0 c1 c2 c3 c4 c5 c6 c7 c8 c9 w
 |1,_=>exact index_at1 c0 c1 c2 c3 c4 c5 c6 c7 c8 c9 w
 |2,_=>exact index_at2 c0 c1 c2 c3 c4 c5 c6 c7 c8 c9 w
 |3,_=>exact index_at3 c0 c1 c2 c3 c4 c5 c6 c7 c8 c9 w
 |4,_=>exact index_at4 c0 c1 c2 c3 c4 c5 c6 c7 c8 c9 w
 |5,_=>exact index_at5 c0 c1 c2 c3 c4 c5 c6 c7 c8 c9 w
 |6,_=>exact index_at6 c0 c1 c2 c3 c4 c5 c6 c7 c8 c9 w
 |7,_=>exact index_at7 c0 c1 c2 c3 c4 c5 c6 c7 c8 c9 w
 |8,_=>exact index_at8 c0 c1 c2 c3 c4 c5 c6 c7 c8 c9 w
 |9,_=>exact index_at9 c0 c1 c2 c3 c4 c5 c6 c7 c8 c9 w
set_option maxRecDepth 20000 in
theorem bConfig_any(c0 c1 c2 c3 c4 c5 c6 c7 c8 c9:Int)(w:World):
  Calls Tryz.prog 52 #[.agg #[.int .i64 c0,.int .i64 c1,.int .i64 c2,.int .i64 c3,.int .i64 c4,.int .i64 c5,.int .i64 c6,.int .i64 c7,.int .i64 c8,.int .i64 c9]] w fun e w'=>e=.returned (.int .i64 (cfgE c0 c1 c2 c3 c4 c5 c6 c7 c8 c9))/\Below w.heap.size w w':=by
 go_enter Tryz.func52,Tryz.ntmps52
 go_wp2_with (first
  |(refine wpList_buildTo rfl 171 _ rfl _ rfl (cH c0 c1 c2 c3 c4 c5 c6 c7 c8 c9) (by kernel_rfl) ?_)
  |(refine wpList_store_new rfl 171 _ _ rfl rfl (cH c0 c1 c2 c3 c4 c5 c6 c7 c8 c9) _ (by simp) rfl rfl 171 _ info_fields rfl (confCells_one _ _ _ _ _ _ _ _ _ _) ?_)
  |(refine wpList_load_row rfl 171 _ rfl _ rfl 171 (cH c0 c1 c2 c3 c4 c5 c6 c7 c8 c9) (0,0) _ (heap_two w _ _) Tryz.underlying171 rfl info_fields ?_))
 go_loopw [40] (fun i wr=>∃k:Nat,k<=10/\i=.int .i64 k/\Hid (∀j,j<k->okAt c0 c1 c2 c3 c4 c5 c6 c7 c8 c9 j=true)/\Below w.heap.size w wr) (fun i _=>10-(intOf i).toNat)
 case atStart=>exact⟨0,Nat.zero_le _,rfl,fun j hj=>by omega,((af w _).alloc (by simp) _)⟩
 case round=>
  obtain⟨k,hk,rfl,hok,hnx⟩:=hrel
  by_cases hlt:k<10
  ·have hsz:=hnx.size
   have HA:Hid (∀o,Below w.heap.size w (wr.alloc o)):=fun o=>hnx.alloc hsz o
   have hix:=index_at c0 c1 c2 c3 c4 c5 c6 c7 c8 c9 k hlt
   have HE:Hid (okAt c0 c1 c2 c3 c4 c5 c6 c7 c8 c9 k=eF (valAt c0 c1 c2 c3 c4 c5 c6 c7 c8 c9 k) (loAt k) (hiAt c1 k)):=rfl
   generalize valAt c0 c1 c2 c3 c4 c5 c6 c7 c8 c9 k=x at hix HE
   generalize loAt k=lo at hix HE
   generalize hiAt c1 k=hi at hix HE
   cases hbt:eF x lo hi
   ·go_wp2_with (go_at_call 101;refine(bbetween_any _ _ _ _).mono ?_;rintro e w' ⟨rfl,rfl⟩)
    go_ret
    exact⟨ret_int (cfgE_one k hlt (HE.out.trans hbt)).symm,HA.out _⟩
   ·go_wp2_with (go_at_call 101;refine(bbetween_any _ _ _ _).mono ?_;rintro e w' ⟨rfl,rfl⟩)
    go_roundw
    case rel=>exact⟨k+1,by omega,by go_num,upto_succ hok.out (HE.out.trans hbt),HA.out _⟩
    case measure=>simp[intOf];omega
  ·obtain rfl:k=10:=by omega
   go_wp2_with fail
   go_ret
   exact⟨ret_int (cfgE_all hok.out).symm,hnx⟩
def orE(a b c:Int):Int:=if a=0 then(if b=0 then c else b) else a
def pick3(a b c:Int):Nat->Int
 |0=>a
 |1=>b
 |_=>c
theorem orE_at{a b c:Int}(k:Nat)(hk:k<3)(h:∀j,j<k->pick3 a b c j=0)(hn:pick3 a b c k≠0):pick3 a b c k=orE a b c:=by
 match k,hk with
 |0,_=>simp only[pick3]at hn⊢;simp[orE,hn]
 |1,_=>
  have h0:=h 0 (by decide)
  simp only[pick3]at hn h0⊢;simp[orE,hn,h0]
 |2,_=>
  have h0:=h 0 (by decide)
  have h1:=h 1 (by decide)
  simp only[pick3]at hn h0 h1⊢;simp[orE,h0,h1]
theorem orE_none{a b c:Int}(h:∀j,j<3->pick3 a b c j=0):(0:Int)=orE a b c:=by
 have h0:=h 0 (by decide)
 have h1:=h 1 (by decide)
 have h2:=h 2 (by decide)
 simp only[pick3]at h0 h1 h2
 simp[orE,h0,h1,h2]
theorem upto_zero{f:Nat->Int}{k:Nat}(h:∀j,j<k->f j=0)(hk:f k=0):∀j,j<k+1->f j=0:=by
 intro j hj
 rcases Nat.lt_or_ge j k with h1|h1
 ·exact h j h1
 ·obtain rfl:j=k:=by omega
  exact hk
theorem cmpOr_any(x y z:Int)(b:Nat)(w:World)(hx:w.cell? ⟨b,0,none⟩= some (.int .i64 x))(hy:w.cell? ⟨b,1,none⟩= some (.int .i64 y))(hz:w.cell? ⟨b,2,none⟩= some (.int .i64 z)):
  Calls Tryz.prog 65 #[.slice (some ⟨b,0,none⟩) 3 3] w fun e w'=>e=.returned (.int .i64 (orE x y z))/\w=w':=by
 have HC:Hid (∀j,j<3->w.cell? ⟨b,j,none⟩= some (.int .i64 (pick3 x y z j))):=by
  intro j hj
  match j,hj with
  |0,_=>exact hx
  |1,_=>exact hy
  |2,_=>exact hz
 clear hx hy hz
 go_enter Tryz.func65,Tryz.ntmps65
 go_wp2
 go_loop [8] (fun i=>∃k:Nat,k<=3/\i=.int .i64 k/\Hid (∀j,j<k->pick3 x y z j=0)) (fun i=>3-(intOf i).toNat)
 case atStart=>exact⟨0,Nat.zero_le _,rfl,fun j hj=>by omega⟩
 case round=>
  obtain⟨k,hk,rfl,hok⟩:=hrel
  by_cases hlt:k<3
  ·have hcell:=HC.out k hlt
   by_cases h0:pick3 x y z k=0
   ·have HZ:=ab h0
    rw[h0]at hcell
    clear h0
    go_wp2
    go_round
    case rel=>exact⟨k+1,by omega,by go_num,upto_zero hok.out HZ.out⟩
    case measure=>simp[intOf];omega
   ·have HR:Hid (pick3 x y z k=orE x y z):=orE_at k hlt hok.out h0
    generalize pick3 x y z k=v at hcell h0 HR
    have hb:(v != 0)=true:=by simp[h0]
    go_wp2
    go_ret
    exact⟨ret_int HR.out,rfl⟩
  ·obtain rfl:k=3:=by omega
   go_wp2
   go_ret
   exact⟨ret_int (orE_none hok.out),rfl⟩
def tokE(c0 c1 c2 c3 c4 c5 c6 c7 c8 k a t:Int):Int:=orE (cfgE c0 c1 c2 c3 c4 c5 c6 c7 c8 k) (argE a 255) (argE t 4294967295)
def tokM(c0 c1 c2 c3 c4 c5 c6 c7 c8 k a t:Int):List Int:=if tokE c0 c1 c2 c3 c4 c5 c6 c7 c8 k a t=0 then bD k a t else []
theorem right_key{c0 c1 c2 c3 c4 c5 c6 c7 c8 c9:Int}(h:rightB c0 c1 c2 c3 c4 c5 c6 c7 c8 c9=true):0<=c9/\c9<4294967296:=by
 unfold rightB at h
 simp only[Bool.and_eq_true]at h
 have:=betw_true h.2.2.2
 omega
theorem tokE_zero{c0 c1 c2 c3 c4 c5 c6 c7 c8 k a t:Int}(h:tokE c0 c1 c2 c3 c4 c5 c6 c7 c8 k a t=0):rightB c0 c1 c2 c3 c4 c5 c6 c7 c8 k=true/\eF a 0 255=true/\eF t 0 4294967295=true:=by
 unfold tokE orE cfgE argE at h
 cases h1:rightB c0 c1 c2 c3 c4 c5 c6 c7 c8 k<;>cases h2:eF a 0 255<;>cases h3:eF t 0 4294967295<;>simp[h1,h2,h3]at h⊢
theorem tokM_yes{c0 c1 c2 c3 c4 c5 c6 c7 c8 k a t:Int}(h:tokE c0 c1 c2 c3 c4 c5 c6 c7 c8 k a t=0):tokM c0 c1 c2 c3 c4 c5 c6 c7 c8 k a t=bD k a t:=by simp[tokM,h]
theorem tokM_no{c0 c1 c2 c3 c4 c5 c6 c7 c8 k a t:Int}(h:¬tokE c0 c1 c2 c3 c4 c5 c6 c7 c8 k a t=0):tokM c0 c1 c2 c3 c4 c5 c6 c7 c8 k a t=[]:=by simp[tokM,h]
theorem box_facts{w w1:World}{c0 c1 c2 c3 c4 c5 c6 c7 c8 k:Int}(hb1:Below (w.alloc (.cells #[.int .i64 c0,.int .i64 c1,.int .i64 c2,.int .i64 c3,.int .i64 c4,.int .i64 c5,.int .i64 c6,.int .i64 c7,.int .i64 c8,.int .i64 k] 26)).heap.size (w.alloc (.cells #[.int .i64 c0,.int .i64 c1,.int .i64 c2,.int .i64 c3,.int .i64 c4,.int .i64 c5,.int .i64 c6,.int .i64 c7,.int .i64 c8,.int .i64 k] 26)) w1):
  (∀o,(w1.alloc o).cell? ⟨w.heap.size,9,none⟩= some (.int .i64 k))/\(∀j,j<10->w1.cell? ⟨w.heap.size,j,none⟩=(w.alloc (.cells #[.int .i64 c0,.int .i64 c1,.int .i64 c2,.int .i64 c3,.int .i64 c4,.int .i64 c5,.int .i64 c6,.int .i64 c7,.int .i64 c8,.int .i64 k] 26)).cell? ⟨w.heap.size,j,none⟩)/\Below w.heap.size w w1/\w.heap.size<w1.heap.size:=by
 have hs:=hb1.size
 simp only[World.size_alloc]at hs
 refine⟨fun o=>?_,fun j hj=>?_,ag (af w _) hb1,by omega⟩
 ·rw[World.cell?_alloc_lt _ _ _ (by show w.heap.size<w1.heap.size;omega),hb1.cell (by simp)]
  simp
 ·rw[hb1.cell (by simp)]
theorem cmpOr_lit(x y z:Int)(w:World):Calls Tryz.prog 65 #[.slice (some ⟨w.heap.size,0,none⟩) 3 3] (w.alloc (.cells #[.int .i64 x,.int .i64 y,.int .i64 z] 35)) fun e w'=>e=.returned (.int .i64 (orE x y z))/\w.alloc (.cells #[.int .i64 x,.int .i64 y,.int .i64 z] 35)=w':=
 cmpOr_any x y z w.heap.size _ (by simp) (by simp) (by simp)
theorem Token_any(c0 c1 c2 c3 c4 c5 c6 c7 c8 k a t:Int)(w:World):
  Calls Tryz.prog 37 #[.agg #[.int .i64 c0,.int .i64 c1,.int .i64 c2,.int .i64 c3,.int .i64 c4,.int .i64 c5,.int .i64 c6,.int .i64 c7,.int .i64 c8,.int .i64 k],.int .i64 a,.int .i64 t] w
   fun e w'=>∃v,e=.returned (.tuple #[v,.int .i64 (tokE c0 c1 c2 c3 c4 c5 c6 c7 c8 k a t)])/\w'.ownsRow w.heap.size 5 1 v (tokM c0 c1 c2 c3 c4 c5 c6 c7 c8 k a t).length (U8 (tokM c0 c1 c2 c3 c4 c5 c6 c7 c8 k a t))/\Below w.heap.size w w':=by
 by_cases hz:tokE c0 c1 c2 c3 c4 c5 c6 c7 c8 k a t=0
 ·obtain⟨hr,ha,ht⟩:=tokE_zero hz
  obtain⟨k0,k1⟩:=right_key hr
  obtain⟨a0,a1⟩:=betw_true ha
  obtain⟨t0,t1⟩:=betw_true ht
  rw[tokM_yes hz]
  have HZ:=ab hz
  have hor:orE (cfgE c0 c1 c2 c3 c4 c5 c6 c7 c8 k) (argE a 255) (argE t 4294967295)=0:=hz
  clear hz hr ha ht
  go_enter Tryz.func37,Tryz.ntmps37
  go_wp2_with fail
  refine(bConfig_any c0 c1 c2 c3 c4 c5 c6 c7 c8 k _).mono ?_
  rintro e w1 ⟨rfl,hb1⟩
  obtain⟨hkey,_,hbw,hsz⟩:=box_facts hb1
  clear hb1
  go_wp2_with (first |(go_at_call 47;refine(bAddress_any _ _).mono ?_;rintro e w' ⟨rfl,rfl⟩) |(go_at_call 66;refine(bTime_any _ _).mono ?_;rintro e w' ⟨rfl,rfl⟩) |(go_at_call 65;refine(cmpOr_lit _ _ _ _).mono ?_;rintro e w' ⟨rfl,rfl⟩))
  refine(wToken_any k a t _ k0 k1 a0 (by omega) t0 (by omega)).mono ?_
  rintro e w2 ⟨v,rfl,hown,hb2⟩
  have hb3:Below w.heap.size w w2:=ag (hbw.alloc hbw.size _) hb2
  have hown3:=ca hown (hbw.alloc hbw.size (.cells #[.int .i64 (cfgE c0 c1 c2 c3 c4 c5 c6 c7 c8 k),.int .i64 (argE a 255),.int .i64 (argE t 4294967295)] 35)).size
  clear hown hb2 hkey
  go_wp2_with fail
  go_ret2
  exact⟨v,by rw[HZ.out];rfl,hown3,hb3⟩
 ·rw[tokM_no hz]
  have hor:orE (cfgE c0 c1 c2 c3 c4 c5 c6 c7 c8 k) (argE a 255) (argE t 4294967295)=tokE c0 c1 c2 c3 c4 c5 c6 c7 c8 k a t:=rfl
  generalize tokE c0 c1 c2 c3 c4 c5 c6 c7 c8 k a t=E at hor hz⊢
  have hbe:(E != 0)=true:=by simp[hz]
  go_enter Tryz.func37,Tryz.ntmps37
  go_wp2_with fail
  refine(bConfig_any c0 c1 c2 c3 c4 c5 c6 c7 c8 k _).mono ?_
  rintro e w1 ⟨rfl,hb1⟩
  obtain⟨hkey,_,hbw,hsz⟩:=box_facts hb1
  clear hb1
  go_wp2_with (first |(go_at_call 47;refine(bAddress_any _ _).mono ?_;rintro e w' ⟨rfl,rfl⟩) |(go_at_call 66;refine(bTime_any _ _).mono ?_;rintro e w' ⟨rfl,rfl⟩) |(go_at_call 65;refine(cmpOr_lit _ _ _ _).mono ?_;rintro e w' ⟨rfl,rfl⟩))
  go_ret2
  exact⟨_,rfl,World.ownsRow_nil _ _ _ _,hbw.alloc hbw.size _⟩
theorem conv_own{w:World}{base:Nat}{v:Value}{l:List Int}(h:w.ownsRow base 5 1 v l.length (U8 l)):(convert 44 9 v).run Tryz.prog w=.ok (.string (strOfNums l)) w:=by
 rcases Nat.eq_zero_or_pos l.length with h0|h0
 ·obtain rfl:l=[]:=List.eq_nil_of_length_eq_zero h0
  rcases h.2 with⟨rfl,_⟩|⟨g,cap,cur,rfl,_⟩
  ·exact run_convert_bytes_nil (P:=Tryz.prog) w 44 5 Tryz.underlying44 Tryz.underlying5 0 0 9 Tryz.underlying9
  ·exact run_convert_bytes_arg (P:=Tryz.prog) w 44 5 Tryz.underlying44 Tryz.underlying5 g 0 0 cap [] rfl (fun i hi=>absurd hi (by simp)) 9 Tryz.underlying9
 ·obtain⟨g,cap,rfl,_,_,_⟩:=cV h h0
  exact run_convert_bytes_arg (P:=Tryz.prog) w 44 5 Tryz.underlying44 Tryz.underlying5 g 0 l.length cap l rfl (dF h) 9 Tryz.underlying9
theorem info_int:(Tryz.prog.info? 3).map (fun i=>(i.zero,i.size,i.bytes))=some (some (.int .i64 0),1,8):=by kernel_rfl
theorem take_snoc'{α:Type}{l:List α}{k:Nat}{c:α}(h:l[k]? =some c):l.take (k+1)=l.take k++[c]:=by
 rw[List.take_add_one,h];rfl
theorem wpList_append_ro{P:Program}{w:World}{ops:Array Oper}{rest:List Oper}{o:Oper}{a:Act}{Q:Exit->Act->World->Prop}(hgd:o.guard=none)(s x:Operand)(t:TypeId)
  (ho:o.op=.call {callee:=.builtin .append,args:=#[s,x],argTypes:=#[t,t]})
  (base:Nat) (e:TypeId) (i:TypeInfo) (z:Value) (size bytes:Nat) (ht:P.underlying t=some (.slice e)) (hi:P.info? e=some i) (hz:i.zero=some z)
  (hsize:i.size=size) (hby:i.bytes=bytes) (hzs:z.cells.size=size) (hsz:0<size)
  (v:Value) (n:Nat) (xs:List Value) (hs:a.eval s=v) (hown:w.ownsRow base e size v n xs)
  (sv:Value) (m:Nat) (news:List Value) (hx:a.eval x=sv) (hsrc:Ro w e sv m news) (hl:news.length=m*size) (h1:∀u∈news,u.oneCell'=true)
  (h63:n+m<=maxLen) (hbytes:(n+m)*bytes<=140737488355328) (hbase:base<=w.heap.size)
  (h:∀v' w',w'.ownsRow base e size v' (n+m) (xs++news)->w.grownBy w' v.ownBlock->wpList P ops Q rest (a.put o.dst v') w'):wpList P ops Q (o::rest) a w:=by
 obtain⟨ao,cap,rfl,hp,hz0⟩:=hsrc
 match ao,hz0,hx,hp with
 |none,hz0,hx,hp=>
  obtain rfl:m=0:=by
   rcases Nat.eq_zero_or_pos m with h0|h0
   ·exact h0
   ·obtain⟨_,_,_,_,h2,_⟩:=hp h0
    simp at h2
  obtain rfl:=hz0 rfl
  obtain rfl:news=[]:=List.length_eq_zero_iff.1 (by simpa using hl)
  refine wpList_append_own_none hgd s x t ho base e i size ht hi v n xs hs hown hx (h v w (by simpa using hown) (below_grown (Below.refl _ _) _))
 |some ad,hz0,hx,hp=>
  refine wpList_append_own w hgd s x t ho base e i z size bytes ht hi hz hsize hby hzs hsz v n xs hs hown ad m cap news hx hl (fun j u hu=>?_) h1 h63 hbytes hbase (fun v' w' h1 h2 _=>h v' w' h1 h2)
  have hj:=(List.getElem?_eq_some_iff.1 hu).1
  have hm:0<m:=by
   rcases Nat.eq_zero_or_pos m with h0|h0
   ·subst h0;simp at hl;subst hl;simp at hj
   ·exact h0
  obtain⟨b,off,cur,fr,h2,hb,hcs⟩:=hp hm
  obtain rfl:=Option.some.inj h2
  have:=hcs j hj
  rw[hu]at this
  have hadd:(⟨b,off,none⟩:Addr).add j =⟨b,off+j,none⟩:=by
   unfold Addr.add
   split
   ·next h0=>subst h0;rfl
   ·rfl
  rw[hadd]
  simp[World.cell?,hb,this]
def sliceLen:Value->Nat
 |.slice _ n _=>n
 |_=>0
def aM(c n:Int):Int:=(if c<0 then -(c+1) else c)%n
theorem aS(c:Int){n:Int}(h:0<n):0<=aM c n/\aM c n<n:=⟨Int.emod_nonneg _ (by omega),Int.emod_lt_of_pos _ h⟩
theorem kpick_any(c n:Int)(w:World)(hc:-9223372036854775808<=c/\c<=9223372036854775807)(hn:0<n/\n<=1000000000000):
  Calls Tryz.prog 19 #[.int .i64 c,.int .i64 n] w fun e w'=>e=.returned (.int .i64 (aM c n))/\w=w':=by
 unfold aM
 rcases Int.lt_or_le c 0 with h1|h1
 ·rw[if_pos h1]
  go_enter Tryz.func19,Tryz.ntmps19
  go_wp2_with fail
  go_ret
  have e:-((c+1).tmod n)=(-(c+1))%n:=by rw[<-Int.neg_tmod,Int.tmod_eq_emod_of_nonneg (by omega)]
  refine⟨?_,rfl⟩
  show Ending.returned (.int .i64 (-((c+1).tmod n)))=_
  rw[e]
 ·rw[if_neg (by omega)]
  go_enter Tryz.func19,Tryz.ntmps19
  go_wp2_with fail
  go_ret
  exact⟨rfl,rfl⟩
def cY(s p:Int):Int:=33+(p*7+s*31+p/50)%200
theorem kletter_any(s p:Int)(w:World)(hs:0<=s/\s<=2000000000)(hp:0<=p/\p<=2000000000):
  Calls Tryz.prog 18 #[.int .i64 s,.int .i64 p] w fun e w'=>e=.returned (.int .u8 (cY s p))/\w=w':=by
 have hq:Int.tdiv p 50=p/50:=Int.tdiv_eq_ediv_of_nonneg hp.1
 go_enter Tryz.func18,Tryz.ntmps18
 go_wp2_with fail
 go_ret
 exact⟨rfl,rfl⟩
theorem dW(n:Int)(w:World)(hn:0<=n/\n<=1073741823):
  Calls Tryz.prog 31 #[.int .i64 n] w fun e w'=>∃v,e=.returned v/\w'.ownsRow w.heap.size 5 1 v (aw n).length (U8 (aw n))/\Below w.heap.size w w':=by
 have HP:=ab (PutNumber_any n w)
 have hb:eF n 0 1073741823=true:=by simp[eF,hn]
 rw[argE_yes hb,putM_yes hb]at HP
 go_enter Tryz.func31,Tryz.ntmps31
 go_wp2_with fail
 refine HP.out.mono ?_
 rintro e w1 ⟨v,rfl,ho,hbl⟩
 obtain⟨va,vc,rfl⟩:=aF ho
 have HO:=ab (And.intro ho hbl)
 clear ho hbl HP
 go_wp2_with fail
 go_ret
 exact⟨_,rfl,HO.out.1,HO.out.2⟩
def ei(l:List (Value×List Int)):List Int:=(l.map (·.2)).flatten
theorem joinL_snoc(l:List (Value×List Int))(x:Value×List Int):ei (l++[x])=ei l++x.2:=by simp[ei]
theorem joinL_take_le(l:List (Value×List Int))(k:Nat):(ei (l.take k)).length<=(ei l).length:=by
 have:ei l=ei (l.take k)++ei (l.drop k):=by
  simp only[ei]
  rw[<-List.flatten_append,<-List.map_append,List.take_append_drop]
 rw[this,List.length_append]
 omega
theorem kjoined_any(l:List (Value×List Int))(b cap:Nat)(w:World)(hcell:∀j p,l[j]? =some p->w.cell? ⟨b,j,none⟩= some p.1)(hR:∀p∈l,RdB w p.1 p.2)(hl:l.length<=1000)(hL:(ei l).length<=1000000000):
  Calls Tryz.prog 32 #[.slice (some ⟨b,0,none⟩) l.length cap] w fun e w'=>∃v,e=.returned v/\w'.ownsRow w.heap.size 5 1 v (ei l).length (U8 (ei l))/\Below w.heap.size w w':=by
 obtain⟨i0,hi,hz0,hz1,hz2⟩:=info_parts fW
 have HC:=ab hcell
 have HR:=ab hR
 clear hcell hR
 go_enter Tryz.func32,Tryz.ntmps32
 go_wp2_with fail
 go_loopw [3,4] (fun o i wr=>∃(k:Nat) (ao:Option Addr) (n cp:Nat),k<=l.length/\i=.int .i64 k/\o=.slice ao n cp/\Hid (n=(ei (l.take k)).length/\wr.ownsRow w.heap.size 5 1 (.slice ao n cp) n (U8 (ei (l.take k))))/\Below w.heap.size w wr) (fun _ i _=>l.length-(intOf i).toNat)
 case atStart=>exact⟨0,none,0,0,Nat.zero_le _,rfl,rfl,⟨rfl,World.ownsRow_nil _ _ _ _⟩,Below.refl _ _⟩
 case round=>
  obtain⟨k,ao,n,cp,hk,rfl,rfl,hO,hbw⟩:=hrel
  have HB:=ab hbw
  have hsz:=hbw.size
  by_cases hlt:k<l.length
  ·obtain⟨p,hp⟩:∃p,l[k]? =some p:=⟨_,List.getElem?_eq_getElem hlt⟩
   have hc:=ae (HC.out k p hp) hbw
   have hrd:=(HR.out p (List.mem_of_getElem? hp)).below hbw
   obtain⟨_,_,pa,pc,hpe,_⟩:=id hrd
   have HRd:=ab hrd.ro
   have hsn:ei (l.take (k+1))=ei (l.take k)++p.2:=by rw[take_snoc' hp,joinL_snoc]
   have hle:=joinL_take_le l (k+1)
   rw[hsn,List.length_append]at hle
   have hn:=hO.out.1
   have HSn:=ab hsn
   rw[hpe]at hc HRd
   obtain⟨m,hm⟩:∃m,p.2.length=m:=⟨_,rfl⟩
   rw[hm]at hc HRd hle
   have HM:=ab hm
   have hlt':((k:Int)<(l.length:Int)):=by omega
   clear hbw hrd hpe hsn hm
   rw[<-hn]at hle
   clear hn
   generalize hNl:l.length=Nl at *
   go_wp2_with (first
    |(at_builtin;refine wpList_append_ro rfl _ _ 44 rfl w.heap.size 5 i0 (.int .u8 0) 1 1 Tryz.underlying44 hi hz0 hz1 hz2 rfl (by decide) (.slice ao n cp) n (U8 (ei (l.take k))) rfl hO.out.2 (.slice pa m pc) m (U8 p.2) rfl HRd.out (by simp[U8,HM.out]) (u8_one _) (by unfold maxLen;omega) (by omega) hsz ?_;intro v1 w1 hown1 hgrow1))
   have hform:=aF hown1
   obtain⟨a1,c1,rfl⟩:=hform
   have HO1:=ab (And.intro hown1 hgrow1)
   clear hown1 hgrow1
   go_wp2_with fail
   go_roundw
   case rel=>
    refine⟨k+1,a1,n+m,c1,by omega,by go_num,rfl,⟨?_,?_⟩,?_⟩
    ·rw[HSn.out,List.length_append,<-hO.out.1,HM.out]
    ·rw[HSn.out,U8_append]
     exact HO1.out.1
    ·exact HB.out.grown HO1.out.2 hsz (fun q hq=>(hO.out.2.lt q hq).1)
   case measure=>simp[intOf];omega
  ·obtain rfl:k=l.length:=by omega
   go_wp2_with fail
   go_ret
   refine⟨_,rfl,?_,HB.out⟩
   have h1:=hO.out
   rw[List.take_length]at h1
   rw[<-h1.1]
   exact h1.2
end Go.Proofs.YthmdjhlhodpbhaaGreatDoor
