import Derived.Laws.Rows
import Derived.RegionDies
import Derived.Test.YthkbeaffkcfgiabGreatDoorR12
import Derived.Test.YthkbeaffkcfgiabGreatDoorR13
set_option linter.unusedSimpArgs false
set_option linter.unusedVariables false
namespace Go.Proofs.YthkbeaffkcfgiabGreatDoor
open Go.RowKit
structure SV where
 k:Nat
 n:Int
 s:List UInt8
 l:List Int
def svCells (x:SV) (lv:Value):List Value:=[.int .i64 x.k,.int .i64 x.n,.string (mk x.s),.int .i64 0,.int .i64 0,lv]
def valueL (kd:Nat) (l:List UInt8):Option (SV × List UInt8) :=
 if kd = 1 then (decimalL l).map fun x => (⟨1,x.1,[],[]⟩,x.2)
 else if kd = 2 then (truthL l).map fun x => (⟨2,x.1,[],[]⟩,x.2)
 else if kd = 3 then (quotedL l).map fun x => (⟨3,0,x.1,[]⟩,x.2)
 else if kd = 4 then (refL l).map fun x => (⟨4,x.1,[],[]⟩,x.2)
 else (listL l).map fun x => (⟨kd,0,[],x.1⟩,x.2)
def VEnds (w:World) (rb ty:Nat) (tail:List Value) (r:Option (SV × List UInt8)) (e:Ending) (w':World):Prop :=
 (∃ x l lv,r = some (x,l) ∧ e = .returned (.agg (svCells x lv).toArray) ∧ Rd w w' rb ty tail l ∧ w'.ownsRow w.heap.size 3 1 lv x.l.length (x.l.map (Value.int .i64))) ∨ (r = none ∧ e = .panicked wrongS ∧ Turns w w' (fun k => k = rb))
theorem row6 {w:World} {b:Nat} {a0 a1 a2 a3 a4 a5:Value} {t:TypeId} (h:w.heap[b]? = some (.cells #[a0,a1,a2,a3,a4,a5] t (0,0))) :
 w.cell? ⟨b,0,none⟩ = some a0 ∧ w.cell? ⟨b,1,none⟩ = some a1 ∧ w.cell? ⟨b,2,none⟩ = some a2 ∧ w.cell? ⟨b,3,none⟩ = some a3 ∧ w.cell? ⟨b,4,none⟩ = some a4 ∧ w.cell? ⟨b,5,none⟩ = some a5 ∧
 w.frozen? ⟨b,0,none⟩ = false ∧ w.frozen? ⟨b,1,none⟩ = false ∧ w.frozen? ⟨b,2,none⟩ = false ∧ w.frozen? ⟨b,3,none⟩ = false ∧ w.frozen? ⟨b,4,none⟩ = false ∧ w.frozen? ⟨b,5,none⟩ = false:=by
 refine ⟨?_,?_,?_,?_,?_,?_,frozen_row h _,frozen_row h _,frozen_row h _,frozen_row h _,frozen_row h _,frozen_row h _⟩ <;> rw [cell_row h] <;> rfl
theorem heapSet {w:World} {b o k:Nat} {u:Value} (h:k ≠ b):(w.setCell ⟨b,o,none⟩ u).heap[k]? = w.heap[k]?:=Below.heap_setCell _ _ _ _ h
theorem Rd.set {w w1:World} {rb ty:Nat} {tail:List Value} {l:List UInt8} (h:Rd w w1 rb ty tail l) (b o:Nat) (u:Value) (hb:w.heap.size ≤ b) (hrb:rb < w.heap.size):Rd w (w1.setCell ⟨b,o,none⟩ u) rb ty tail l :=
 ⟨h.rest.keep (Below.heap_setCell _ _ _ _ (by show rb ≠ b;omega)),h.turns.set b o u (fun h => by omega)⟩
set_option maxHeartbeats 3200000 in
set_option maxRecDepth 20000 in
theorem value1_any (rb:Nat) (l:List UInt8) (w:World) (hR:RdAt w rb 271 [] l) (hl:l.length ≤ 2 ^ 40) (hG:Glob w) (hrb8:11 ≤ rb) :
 Calls Tryz.prog 268 #[.pointer (some ⟨rb,0,none⟩),.int .i64 1] w (VEnds w rb 271 [] (valueL 1 l)):=by
 have hrb:=hR.lt
 obtain ⟨W1,hW1⟩:∃ W1,W1 = (w.alloc (.cells #[.int .i64 0,.int .i64 0,.string ⟨#[]⟩,.int .i64 0,.int .i64 0,.slice none 0 0] 56)).alloc (.cells #[.int .i64 1,.int .i64 0,.string ⟨#[]⟩,.int .i64 0,.int .i64 0,.slice none 0 0] 56):=⟨_,rfl⟩
 have hB1:Below w.heap.size w W1:=by rw [hW1];exact below_two _ _ _
 have hs1:W1.heap.size = w.heap.size + 2:=by rw [hW1];simp
 have HC:Hid (Calls Tryz.prog 282 #[.pointer (some ⟨rb,0,none⟩)] W1 _):=decimal_any rb l W1 (hR.below hB1) hl (hG.below hG.size hB1 hB1.size) hrb8
 have HVa:Hid (valueL 1 l = (decimalL l).map fun x => (⟨1,x.1,[],[]⟩,x.2)):=rfl
 rw [hW1] at HC
 clear hR hG
 go_enter Tryz.func268,Tryz.ntmps268
 go_wp2_with fail
 refine Calls.mono HC.out ?_
 rw [← hW1]
 rintro e w2 (⟨v,l3,hv,rfl,ht3⟩ | ⟨hn,rfl,ht3⟩)
 · obtain ⟨n,r,hd⟩:∃ n r,decimalL l = some (n,r):=by
    cases hd:decimalL l with
    | none => rw [hd] at hv;cases hv
    | some x => exact ⟨x.1,x.2,rfl⟩
   have HV:Hid (valueL 1 l = some (⟨1,n,[],[]⟩,r)):=by show _ = _;rw [HVa.out,hd];rfl
   rw [hd] at hv
   simp [intP] at hv
   obtain ⟨rfl,rfl⟩:=hv
   have hb1:w2.heap[w.heap.size]? = some (.cells #[.int .i64 0,.int .i64 0,.string ⟨#[]⟩,.int .i64 0,.int .i64 0,.slice none 0 0] 56 (0,0)):=by
    rw [ht3.turns.block _ (by omega) (by omega),hW1,Below.heap_alloc _ _ _ (by simp)];exact heap_alloc_at rfl _
   have hb2:w2.heap[w.heap.size + 1]? = some (.cells #[.int .i64 1,.int .i64 0,.string ⟨#[]⟩,.int .i64 0,.int .i64 0,.slice none 0 0] 56 (0,0)):=by
    rw [ht3.turns.block _ (by omega) (by omega),hW1];exact heap_alloc_at (by simp) _
   obtain ⟨p0,p1,p2,p3,p4,p5,f0,f1,f2,f3,f4,f5⟩:=row6 hb1
   obtain ⟨q0,q1,q2,q3,q4,q5,g0,g1,g2,g3,g4,g5⟩:=row6 hb2
   clear hb1 hb2
   have HT:Hid (Rd w w2 rb 271 [] r):=⟨ht3.rest,(Turns.ofBelow _ hB1).trans' ht3.turns⟩
   clear ht3 hd
   go_wp2_with fail
   refine bodyPost_ret (v:=.agg (svCells ⟨1,n,[],[]⟩ (.slice none 0 0)).toArray) ?_ rfl (Or.inl ⟨_,r,_,HV.out,rfl,?_,World.ownsRow_nil _ _ _ _⟩)
   · simp [results,Tryz.results268,go_sem,p0,p1,p2,p3,p4,p5,svCells,mk]
   · repeat (refine Rd.set ?_ _ _ _ (by omega) hrb)
     exact HT.out
 · go_wp2_with fail
   refine ⟨rfl,Or.inr ⟨?_,rfl,(Turns.ofBelow _ hB1).trans' ht3⟩⟩
   cases hd:decimalL l with
   | none => rw [HVa.out,hd];rfl
   | some x => rw [hd] at hn;cases hn
set_option maxHeartbeats 3200000 in
set_option maxRecDepth 20000 in
theorem value2_any (rb:Nat) (l:List UInt8) (w:World) (hR:RdAt w rb 271 [] l) (hl:l.length ≤ 2 ^ 40) (hrb8:11 ≤ rb) :
 Calls Tryz.prog 268 #[.pointer (some ⟨rb,0,none⟩),.int .i64 2] w (VEnds w rb 271 [] (valueL 2 l)):=by
 have hrb:=hR.lt
 obtain ⟨W1,hW1⟩:∃ W1,W1 = (w.alloc (.cells #[.int .i64 0,.int .i64 0,.string ⟨#[]⟩,.int .i64 0,.int .i64 0,.slice none 0 0] 56)).alloc (.cells #[.int .i64 2,.int .i64 0,.string ⟨#[]⟩,.int .i64 0,.int .i64 0,.slice none 0 0] 56):=⟨_,rfl⟩
 have hB1:Below w.heap.size w W1:=by rw [hW1];exact below_two _ _ _
 have hs1:W1.heap.size = w.heap.size + 2:=by rw [hW1];simp
 have HC:Hid (Calls Tryz.prog 283 #[.pointer (some ⟨rb,0,none⟩)] W1 _):=truth_any rb l W1 (hR.below hB1)
 have HVa:Hid (valueL 2 l = (truthL l).map fun x => (⟨2,x.1,[],[]⟩,x.2)):=rfl
 rw [hW1] at HC
 clear hR
 go_enter Tryz.func268,Tryz.ntmps268
 go_wp2_with fail
 refine Calls.mono HC.out ?_
 rw [← hW1]
 rintro e w2 (⟨v,l3,hv,rfl,ht3⟩ | ⟨hn,rfl,ht3⟩)
 · obtain ⟨n,r,hd⟩:∃ n r,truthL l = some (n,r):=by
    cases hd:truthL l with
    | none => rw [hd] at hv;cases hv
    | some x => exact ⟨x.1,x.2,rfl⟩
   have HV:Hid (valueL 2 l = some (⟨2,n,[],[]⟩,r)):=by show _ = _;rw [HVa.out,hd];rfl
   rw [hd] at hv
   simp [intP] at hv
   obtain ⟨rfl,rfl⟩:=hv
   have hb1:w2.heap[w.heap.size]? = some (.cells #[.int .i64 0,.int .i64 0,.string ⟨#[]⟩,.int .i64 0,.int .i64 0,.slice none 0 0] 56 (0,0)):=by
    rw [ht3.turns.block _ (by omega) (by omega),hW1,Below.heap_alloc _ _ _ (by simp)];exact heap_alloc_at rfl _
   have hb2:w2.heap[w.heap.size + 1]? = some (.cells #[.int .i64 2,.int .i64 0,.string ⟨#[]⟩,.int .i64 0,.int .i64 0,.slice none 0 0] 56 (0,0)):=by
    rw [ht3.turns.block _ (by omega) (by omega),hW1];exact heap_alloc_at (by simp) _
   obtain ⟨p0,p1,p2,p3,p4,p5,f0,f1,f2,f3,f4,f5⟩:=row6 hb1
   obtain ⟨q0,q1,q2,q3,q4,q5,g0,g1,g2,g3,g4,g5⟩:=row6 hb2
   clear hb1 hb2
   have HT:Hid (Rd w w2 rb 271 [] r):=⟨ht3.rest,(Turns.ofBelow _ hB1).trans' ht3.turns⟩
   clear ht3 hd
   go_wp2_with fail
   refine bodyPost_ret (v:=.agg (svCells ⟨2,n,[],[]⟩ (.slice none 0 0)).toArray) ?_ rfl (Or.inl ⟨_,r,_,HV.out,rfl,?_,World.ownsRow_nil _ _ _ _⟩)
   · simp [results,Tryz.results268,go_sem,p0,p1,p2,p3,p4,p5,svCells,mk]
   · repeat (refine Rd.set ?_ _ _ _ (by omega) hrb)
     exact HT.out
 · go_wp2_with fail
   refine ⟨rfl,Or.inr ⟨?_,rfl,(Turns.ofBelow _ hB1).trans' ht3⟩⟩
   cases hd:truthL l with
   | none => rw [HVa.out,hd];rfl
   | some x => rw [hd] at hn;cases hn
set_option maxHeartbeats 3200000 in
set_option maxRecDepth 20000 in
theorem value3_any (rb:Nat) (l:List UInt8) (w:World) (hR:RdAt w rb 271 [] l) (hl:l.length ≤ 2 ^ 40) (hrb8:11 ≤ rb) :
 Calls Tryz.prog 268 #[.pointer (some ⟨rb,0,none⟩),.int .i64 3] w (VEnds w rb 271 [] (valueL 3 l)):=by
 have hrb:=hR.lt
 obtain ⟨W1,hW1⟩:∃ W1,W1 = (w.alloc (.cells #[.int .i64 0,.int .i64 0,.string ⟨#[]⟩,.int .i64 0,.int .i64 0,.slice none 0 0] 56)).alloc (.cells #[.int .i64 3,.int .i64 0,.string ⟨#[]⟩,.int .i64 0,.int .i64 0,.slice none 0 0] 56):=⟨_,rfl⟩
 have hB1:Below w.heap.size w W1:=by rw [hW1];exact below_two _ _ _
 have hs1:W1.heap.size = w.heap.size + 2:=by rw [hW1];simp
 have HC:Hid (Calls Tryz.prog 284 #[.pointer (some ⟨rb,0,none⟩)] W1 _):=quoted_any rb l W1 (hR.below hB1) hl
 have HVa:Hid (valueL 3 l = (quotedL l).map fun x => (⟨3,0,x.1,[]⟩,x.2)):=rfl
 rw [hW1] at HC
 clear hR
 go_enter Tryz.func268,Tryz.ntmps268
 go_wp2_with fail
 refine Calls.mono HC.out ?_
 rw [← hW1]
 rintro e w2 (⟨v,l3,hv,rfl,ht3⟩ | ⟨hn,rfl,ht3⟩)
 · obtain ⟨n,r,hd⟩:∃ n r,quotedL l = some (n,r):=by
    cases hd:quotedL l with
    | none => rw [hd] at hv;cases hv
    | some x => exact ⟨x.1,x.2,rfl⟩
   have HV:Hid (valueL 3 l = some (⟨3,0,n,[]⟩,r)):=by show _ = _;rw [HVa.out,hd];rfl
   rw [hd] at hv
   simp [strP] at hv
   obtain ⟨rfl,rfl⟩:=hv
   have hb1:w2.heap[w.heap.size]? = some (.cells #[.int .i64 0,.int .i64 0,.string ⟨#[]⟩,.int .i64 0,.int .i64 0,.slice none 0 0] 56 (0,0)):=by
    rw [ht3.turns.block _ (by omega) (by omega),hW1,Below.heap_alloc _ _ _ (by simp)];exact heap_alloc_at rfl _
   have hb2:w2.heap[w.heap.size + 1]? = some (.cells #[.int .i64 3,.int .i64 0,.string ⟨#[]⟩,.int .i64 0,.int .i64 0,.slice none 0 0] 56 (0,0)):=by
    rw [ht3.turns.block _ (by omega) (by omega),hW1];exact heap_alloc_at (by simp) _
   obtain ⟨p0,p1,p2,p3,p4,p5,f0,f1,f2,f3,f4,f5⟩:=row6 hb1
   obtain ⟨q0,q1,q2,q3,q4,q5,g0,g1,g2,g3,g4,g5⟩:=row6 hb2
   clear hb1 hb2
   have HT:Hid (Rd w w2 rb 271 [] r):=⟨ht3.rest,(Turns.ofBelow _ hB1).trans' ht3.turns⟩
   clear ht3 hd
   go_wp2_with fail
   refine bodyPost_ret (v:=.agg (svCells ⟨3,0,n,[]⟩ (.slice none 0 0)).toArray) ?_ rfl (Or.inl ⟨_,r,_,HV.out,rfl,?_,World.ownsRow_nil _ _ _ _⟩)
   · simp [results,Tryz.results268,go_sem,p0,p1,p2,p3,p4,p5,svCells,mk]
   · repeat (refine Rd.set ?_ _ _ _ (by omega) hrb)
     exact HT.out
 · go_wp2_with fail
   refine ⟨rfl,Or.inr ⟨?_,rfl,(Turns.ofBelow _ hB1).trans' ht3⟩⟩
   cases hd:quotedL l with
   | none => rw [HVa.out,hd];rfl
   | some x => rw [hd] at hn;cases hn
set_option maxHeartbeats 3200000 in
set_option maxRecDepth 20000 in
theorem value4_any (rb:Nat) (l:List UInt8) (w:World) (hR:RdAt w rb 271 [] l) (hl:l.length ≤ 2 ^ 40) (hG:Glob w) (hrb8:11 ≤ rb) :
 Calls Tryz.prog 268 #[.pointer (some ⟨rb,0,none⟩),.int .i64 4] w (VEnds w rb 271 [] (valueL 4 l)):=by
 have hrb:=hR.lt
 obtain ⟨W1,hW1⟩:∃ W1,W1 = (w.alloc (.cells #[.int .i64 0,.int .i64 0,.string ⟨#[]⟩,.int .i64 0,.int .i64 0,.slice none 0 0] 56)).alloc (.cells #[.int .i64 4,.int .i64 0,.string ⟨#[]⟩,.int .i64 0,.int .i64 0,.slice none 0 0] 56):=⟨_,rfl⟩
 have hB1:Below w.heap.size w W1:=by rw [hW1];exact below_two _ _ _
 have hs1:W1.heap.size = w.heap.size + 2:=by rw [hW1];simp
 have HC:Hid (Calls Tryz.prog 285 #[.pointer (some ⟨rb,0,none⟩)] W1 _):=ref_any rb l W1 (hR.below hB1) hl (hG.below hG.size hB1 hB1.size) hrb8
 have HVa:Hid (valueL 4 l = (refL l).map fun x => (⟨4,x.1,[],[]⟩,x.2)):=rfl
 rw [hW1] at HC
 clear hR hG
 go_enter Tryz.func268,Tryz.ntmps268
 go_wp2_with fail
 refine Calls.mono HC.out ?_
 rw [← hW1]
 rintro e w2 (⟨v,l3,hv,rfl,ht3⟩ | ⟨hn,rfl,ht3⟩)
 · obtain ⟨n,r,hd⟩:∃ n r,refL l = some (n,r):=by
    cases hd:refL l with
    | none => rw [hd] at hv;cases hv
    | some x => exact ⟨x.1,x.2,rfl⟩
   have HV:Hid (valueL 4 l = some (⟨4,n,[],[]⟩,r)):=by show _ = _;rw [HVa.out,hd];rfl
   rw [hd] at hv
   simp [intP] at hv
   obtain ⟨rfl,rfl⟩:=hv
   have hb1:w2.heap[w.heap.size]? = some (.cells #[.int .i64 0,.int .i64 0,.string ⟨#[]⟩,.int .i64 0,.int .i64 0,.slice none 0 0] 56 (0,0)):=by
    rw [ht3.turns.block _ (by omega) (by omega),hW1,Below.heap_alloc _ _ _ (by simp)];exact heap_alloc_at rfl _
   have hb2:w2.heap[w.heap.size + 1]? = some (.cells #[.int .i64 4,.int .i64 0,.string ⟨#[]⟩,.int .i64 0,.int .i64 0,.slice none 0 0] 56 (0,0)):=by
    rw [ht3.turns.block _ (by omega) (by omega),hW1];exact heap_alloc_at (by simp) _
   obtain ⟨p0,p1,p2,p3,p4,p5,f0,f1,f2,f3,f4,f5⟩:=row6 hb1
   obtain ⟨q0,q1,q2,q3,q4,q5,g0,g1,g2,g3,g4,g5⟩:=row6 hb2
   clear hb1 hb2
   have HT:Hid (Rd w w2 rb 271 [] r):=⟨ht3.rest,(Turns.ofBelow _ hB1).trans' ht3.turns⟩
   clear ht3 hd
   go_wp2_with fail
   refine bodyPost_ret (v:=.agg (svCells ⟨4,n,[],[]⟩ (.slice none 0 0)).toArray) ?_ rfl (Or.inl ⟨_,r,_,HV.out,rfl,?_,World.ownsRow_nil _ _ _ _⟩)
   · simp [results,Tryz.results268,go_sem,p0,p1,p2,p3,p4,p5,svCells,mk]
   · repeat (refine Rd.set ?_ _ _ _ (by omega) hrb)
     exact HT.out
 · go_wp2_with fail
   refine ⟨rfl,Or.inr ⟨?_,rfl,(Turns.ofBelow _ hB1).trans' ht3⟩⟩
   cases hd:refL l with
   | none => rw [HVa.out,hd];rfl
   | some x => rw [hd] at hn;cases hn
set_option maxHeartbeats 3200000 in
set_option maxRecDepth 20000 in
theorem value5_any (rb:Nat) (l:List UInt8) (w:World) (hR:RdAt w rb 271 [] l) (hl:l.length ≤ 2 ^ 40) (hG:Glob w) (hrb8:11 ≤ rb) :
 Calls Tryz.prog 268 #[.pointer (some ⟨rb,0,none⟩),.int .i64 5] w (VEnds w rb 271 [] (valueL 5 l)):=by
 have hrb:=hR.lt
 obtain ⟨W1,hW1⟩:∃ W1,W1 = (w.alloc (.cells #[.int .i64 0,.int .i64 0,.string ⟨#[]⟩,.int .i64 0,.int .i64 0,.slice none 0 0] 56)).alloc (.cells #[.int .i64 5,.int .i64 0,.string ⟨#[]⟩,.int .i64 0,.int .i64 0,.slice none 0 0] 56):=⟨_,rfl⟩
 have hB1:Below w.heap.size w W1:=by rw [hW1];exact below_two _ _ _
 have hs1:W1.heap.size = w.heap.size + 2:=by rw [hW1];simp
 have HC:Hid (Calls Tryz.prog 286 #[.pointer (some ⟨rb,0,none⟩)] W1 _):=list_any rb l W1 (hR.below hB1) hl (hG.below hG.size hB1 hB1.size) hrb8
 have HVa:Hid (valueL 5 l = (listL l).map fun x => (⟨5,0,[],x.1⟩,x.2)):=rfl
 rw [hW1] at HC
 clear hR hG
 go_enter Tryz.func268,Tryz.ntmps268
 go_wp2_with fail
 refine Calls.mono HC.out ?_
 rw [← hW1]
 rintro e w2 (⟨n,r,sa,sc,hd,rfl,ht3,ho⟩ | ⟨hn,rfl,ht3⟩)
 · have HV:Hid (valueL 5 l = some (⟨5,0,[],n⟩,r)):=by show _ = _;rw [HVa.out,hd];rfl
   have HO:Hid (w2.ownsRow W1.heap.size 3 1 (.slice sa n.length sc) n.length (n.map (Value.int .i64))):=ho
   have hb1:w2.heap[w.heap.size]? = some (.cells #[.int .i64 0,.int .i64 0,.string ⟨#[]⟩,.int .i64 0,.int .i64 0,.slice none 0 0] 56 (0,0)):=by
    rw [ht3.turns.block _ (by omega) (by omega),hW1,Below.heap_alloc _ _ _ (by simp)];exact heap_alloc_at rfl _
   have hb2:w2.heap[w.heap.size + 1]? = some (.cells #[.int .i64 5,.int .i64 0,.string ⟨#[]⟩,.int .i64 0,.int .i64 0,.slice none 0 0] 56 (0,0)):=by
    rw [ht3.turns.block _ (by omega) (by omega),hW1];exact heap_alloc_at (by simp) _
   obtain ⟨p0,p1,p2,p3,p4,p5,f0,f1,f2,f3,f4,f5⟩:=row6 hb1
   obtain ⟨q0,q1,q2,q3,q4,q5,g0,g1,g2,g3,g4,g5⟩:=row6 hb2
   clear hb1 hb2
   have HT:Hid (Rd w w2 rb 271 [] r):=⟨ht3.rest,(Turns.ofBelow _ hB1).trans' ht3.turns⟩
   clear ht3 hd ho
   go_wp2_with fail
   refine bodyPost_ret (v:=.agg (svCells ⟨5,0,[],n⟩ (.slice sa n.length sc)).toArray) ?_ rfl (Or.inl ⟨_,r,_,HV.out,rfl,?_,own_turn (own_base HO.out (by omega)) (fun k hk hkl => ?_)⟩)
   · simp [results,Tryz.results268,go_sem,p0,p1,p2,p3,p4,p5,svCells,mk]
   · repeat (refine Rd.set ?_ _ _ _ (by omega) hrb)
     exact HT.out
   · have:=(HO.out.lt k hk).1
     rw [hs1] at this
     repeat (refine (heapSet (by omega)).trans ?_)
     rfl
 · go_wp2_with fail
   refine ⟨rfl,Or.inr ⟨?_,rfl,(Turns.ofBelow _ hB1).trans' ht3⟩⟩
   rw [HVa.out,hn];rfl
theorem value_any (kd:Nat) (h1:1 ≤ kd) (h5:kd ≤ 5) (rb:Nat) (l:List UInt8) (w:World) (hR:RdAt w rb 271 [] l) (hl:l.length ≤ 2 ^ 40) (hG:Glob w) (hrb8:11 ≤ rb) :
 Calls Tryz.prog 268 #[.pointer (some ⟨rb,0,none⟩),.int .i64 kd] w (VEnds w rb 271 [] (valueL kd l)):=by
 have h:kd = 1 ∨ kd = 2 ∨ kd = 3 ∨ kd = 4 ∨ kd = 5:=by omega
 rcases h with rfl | rfl | rfl | rfl | rfl
 · exact value1_any rb l w hR hl hG hrb8
 · exact value2_any rb l w hR hl hrb8
 · exact value3_any rb l w hR hl hrb8
 · exact value4_any rb l w hR hl hG hrb8
 · exact value5_any rb l w hR hl hG hrb8
abbrev CompS:=List UInt8 × List (List UInt8 × Nat)
def FieldsN (w:World) (s:Value) (fl:List (List UInt8 × Nat)):Prop :=
 (s = .slice none 0 0 ∧ fl = []) ∨ ∃ g c,s = .slice (some ⟨g,0,none⟩) fl.length c ∧ fl.length ≤ c ∧ g < w.heap.size ∧ ∀ j (h:j < fl.length),w.cell? ⟨g,j * 2,none⟩ = some (.string (mk fl[j].1)) ∧ w.cell? ⟨g,j * 2 + 1,none⟩ = some (.int .i64 (fl[j].2:Int))
def CompOk (c:CompS):Prop:=c.1.length ≤ 8 ∧ c.2.length ≤ 4 ∧ ∀ f ∈ c.2,f.1.length ≤ 8 ∧ 1 ≤ f.2 ∧ f.2 ≤ 5
theorem FieldsN.keep {w w':World} {s:Value} {fl:List (List UInt8 × Nat)} (h:FieldsN w s fl) (hs:w.heap.size ≤ w'.heap.size) (hb:∀ k,s.ownBlock = some k → k < w.heap.size → w'.heap[k]? = w.heap[k]?):FieldsN w' s fl:=by
 rcases h with h | ⟨g,c,h1,h2,h3,h4⟩
 · exact Or.inl h
 · have hk:=hb g (by rw [h1];rfl) h3
   exact Or.inr ⟨g,c,h1,h2,Nat.lt_of_lt_of_le h3 hs,fun j hj => ⟨(World.cell?_of_block (a:=⟨g,j * 2,none⟩) hk).trans (h4 j hj).1,(World.cell?_of_block (a:=⟨g,j * 2 + 1,none⟩) hk).trans (h4 j hj).2⟩⟩
theorem FieldsN.lt {w:World} {s:Value} {fl:List (List UInt8 × Nat)} (h:FieldsN w s fl):∀ k,s.ownBlock = some k → k < w.heap.size:=by
 rcases h with ⟨h,_⟩ | ⟨g,c,h1,h2,h3,h4⟩
 · intro k hk;rw [h] at hk;cases hk
 · intro k hk;rw [h1] at hk;simp [Value.ownBlock] at hk;subst hk;exact h3
theorem FieldsN.form {w:World} {s:Value} {fl:List (List UInt8 × Nat)} (h:FieldsN w s fl):∃ a c,s = .slice a fl.length c:=by
 rcases h with ⟨h,rfl⟩ | ⟨g,c,h1,_⟩
 · exact ⟨none,0,h⟩
 · exact ⟨_,c,h1⟩
def fieldsGoL:List (List UInt8 × Nat) → List SV → List UInt8 → Option (List SV × List UInt8)
 | [],acc,l => some (acc,l)
 | f :: fs,acc,l => if Lib.hasPrefix l (32 :: (f.1 ++ [61])) then
  match valueL f.2 (Lib.trimPrefix l (32 :: (f.1 ++ [61]))) with
  | none => none
  | some (x,r) => fieldsGoL fs (acc ++ [x]) r
  else none
def lineL (c:CompS) (l:List UInt8):Option (List SV × List UInt8) :=
 if Lib.hasPrefix l c.1 then
  match fieldsGoL c.2 [] (Lib.trimPrefix l c.1) with
  | none => none
  | some (vs,r) => if Lib.hasPrefix r [10] then some (vs,Lib.trimPrefix r [10]) else none
 else none
theorem quotedGo_len:∀ (n:Nat) (acc l:List UInt8) {s r:List UInt8},quotedGo n acc l = some (s,r) → r.length ≤ l.length
 | 0,acc,l,s,r,h => by
  rw [quotedGo] at h
  split at h
  · simp at h;rw [← h.2];exact trim_len _ _
  · cases h
 | n + 1,acc,l,s,r,h => by
  rw [quotedGo] at h
  split at h
  · simp at h;rw [← h.2];exact trim_len _ _
  · split at h
    · cases h
    · rename_i b q hb
      have:=quotedGo_len n _ _ h
      have:=quotedByteL_len hb
      omega
theorem listGo_len:∀ (n:Nat) (acc:List Int) (l:List UInt8) {s:List Int} {r:List UInt8},listGo n acc l = some (s,r) → r.length ≤ l.length
 | 0,acc,l,s,r,h => by
  rw [listGo] at h
  split at h
  · simp at h;rw [← h.2];exact trim_len _ _
  · cases h
 | n + 1,acc,l,s,r,h => by
  rw [listGo] at h
  split at h
  · simp at h;rw [← h.2];exact trim_len _ _
  · split at h
    · cases h
    · split at h
      · cases h
      · rename_i x q hb
        have h1:=listGo_len n _ _ h
        have h2:=(decimalL_len hb).1
        have h3:(if acc = [] then l else Lib.trimPrefix l [44]).length ≤ l.length:=by
         split
         · exact Nat.le_refl _
         · exact trim_len _ _
        omega
theorem truthL_len {l r:List UInt8} {x:Int} (h:truthL l = some (x,r)):r.length ≤ l.length:=by
 unfold truthL at h
 split at h
 · simp at h;rw [← h.2];exact trim_len _ _
 · split at h
   · simp at h;rw [← h.2];exact trim_len _ _
   · cases h
theorem refL_len {l r:List UInt8} {x:Int} (h:refL l = some (x,r)):r.length ≤ l.length:=by
 unfold refL at h
 split at h
 · simp at h;rw [← h.2];exact trim_len _ _
 · split at h
   · split at h
     · cases h
     · rename_i n q hb
       split at h
       · simp at h
         have h1:=(decimalL_len hb).1
         have h2:=trim_len l [64]
         rw [← h.2];omega
       · cases h
   · cases h
theorem valueL_len {kd:Nat} {l r:List UInt8} {x:SV} (h:valueL kd l = some (x,r)):r.length ≤ l.length:=by
 unfold valueL at h
 split at h
 · obtain ⟨y,hy,e⟩:=Option.map_eq_some_iff.1 h
   simp at e;rw [← e.2];exact (decimalL_len (n:=y.1) hy).1
 · split at h
   · obtain ⟨y,hy,e⟩:=Option.map_eq_some_iff.1 h
     simp at e;rw [← e.2];exact truthL_len (x:=y.1) hy
   · split at h
     · obtain ⟨y,hy,e⟩:=Option.map_eq_some_iff.1 h
       simp at e;rw [← e.2]
       unfold quotedL at hy
       split at hy
       · have:=quotedGo_len _ _ _ (s:=y.1) hy
         have:=trim_len l [34]
         omega
       · cases hy
     · split at h
       · obtain ⟨y,hy,e⟩:=Option.map_eq_some_iff.1 h
         simp at e;rw [← e.2];exact refL_len (x:=y.1) hy
       · obtain ⟨y,hy,e⟩:=Option.map_eq_some_iff.1 h
         simp at e;rw [← e.2]
         unfold listL at hy
         split at hy
         · have:=listGo_len _ _ _ (s:=y.1) hy
           have:=trim_len l [91]
           omega
         · cases hy
def flatSV (vs:List SV) (lvs:List Value):List Value:=(List.zipWith svCells vs lvs).flatten
structure ValsOwn (W:World) (B:Nat) (v:Value) (vs:List SV) (lvs:List Value):Prop where
 len:lvs.length = vs.length
 row:W.ownsRow B 56 6 v vs.length (flatSV vs lvs)
 lists:∀ j (h:j < vs.length) (h':j < lvs.length),W.ownsRow B 3 1 lvs[j] vs[j].l.length (vs[j].l.map (Value.int .i64))
theorem svCells_one (x:SV) {lv:Value} (h:∃ a n c,lv = .slice a n c):∀ u ∈ svCells x lv,u.oneCell' = true:=by
 obtain ⟨a,n,c,rfl⟩:=h
 intro u hu
 simp [svCells] at hu
 rcases hu with rfl | rfl | rfl | rfl | rfl <;> rfl
theorem own_apart {W:World} {B B' e e' s s' n n':Nat} {v v':Value} {xs xs':List Value} (h:W.ownsRow B e s v n xs) (h':W.ownsRow B' e' s' v' n' xs') (he:e ≠ e'):∀ k,v.ownBlock = some k → v'.ownBlock ≠ some k:=by
 intro k hk hk'
 rcases h.2 with ⟨rfl,_⟩ | ⟨g,cap,cur,rfl,_,hg,_⟩
 · cases hk
 · rcases h'.2 with ⟨rfl,_⟩ | ⟨g',cap',cur',rfl,_,hg',_⟩
   · cases hk'
   · simp [Value.ownBlock] at hk hk'
     subst hk;subst hk'
     rw [hg] at hg'
     simp at hg'
     exact he hg'.2
theorem ValsOwn.keep {W W':World} {B:Nat} {v:Value} {vs:List SV} {lvs:List Value} (h:ValsOwn W B v vs lvs) (hb:∀ k,B ≤ k → k < W.heap.size → W'.heap[k]? = W.heap[k]?):ValsOwn W' B v vs lvs :=
 ⟨h.len,own_turn h.row fun k hk hl => hb k (h.row.lt k hk).1 hl,fun j hj hj' => own_turn (h.lists j hj hj') fun k hk hl => hb k ((h.lists j hj hj').lt k hk).1 hl⟩
theorem ValsOwn.push {W W':World} {B:Nat} {v v':Value} {vs:List SV} {lvs:List Value} {x:SV} {lv:Value} (h:ValsOwn W B v vs lvs) (hx:W.ownsRow B 3 1 lv x.l.length (x.l.map (Value.int .i64)))
 (hr:W'.ownsRow B 56 6 v' (vs.length + 1) (flatSV vs lvs ++ svCells x lv)) (hg:W.grownBy W' v.ownBlock):ValsOwn W' B v' (vs ++ [x]) (lvs ++ [lv]):=by
 refine ⟨by simp [h.len],?_,fun j hj hj' => ?_⟩
 · have e:flatSV (vs ++ [x]) (lvs ++ [lv]) = flatSV vs lvs ++ svCells x lv:=by
    unfold flatSV
    rw [List.zipWith_append h.len.symm]
    simp
   rw [e]
   simpa using hr
 · have key:∀ {u:Value} {n:Nat} {ys:List Value},W.ownsRow B 3 1 u n ys → W'.ownsRow B 3 1 u n ys:=fun {u n ys} hu =>
    own_turn hu fun k hk hl => hg.block k hl (fun e => own_apart hu h.row (by decide) k hk e.symm)
   simp only [List.length_append,List.length_singleton] at hj hj'
   by_cases hlt:j < vs.length
   · rw [List.getElem_append_left (show j < lvs.length by rw [h.len];omega),List.getElem_append_left hlt]
     exact key (h.lists j hlt (by rw [h.len];omega))
   · have e:j = vs.length:=by omega
     subst e
     have e2:(lvs ++ [lv])[vs.length]'(by simp [h.len]) = lv:=by
      rw [List.getElem_append_right (by rw [h.len];exact Nat.le_refl _)]
      simp [h.len]
     rw [List.getElem_append_right (Nat.le_refl _),e2]
     simpa using key hx
theorem new_cells {w:World} {t:TypeId} (xs:List Value):∀ j u,xs[j]? = some u → (w.alloc (.cells xs.toArray t)).cell? ((⟨w.heap.size,0,none⟩:Addr).add j) = some u:=fun j u hj => by
 rw [Addr.add_lit,Nat.zero_add,World.cell?_alloc_new]
 simpa using hj
theorem mk_append (a b:List UInt8):mk a ++ mk b = mk (a ++ b):=by
 apply ByteArray.ext
 simp [mk]
def LnEnds (w:World) (rb:Nat) (r:Option (List SV × List UInt8)) (e:Ending) (w':World):Prop :=
 (∃ vs l sa sc lvs,r = some (vs,l) ∧ e = .returned (.slice sa vs.length sc) ∧ Rd w w' rb 271 [] l ∧ ValsOwn w' w.heap.size (.slice sa vs.length sc) vs lvs) ∨ (r = none ∧ e = .panicked wrongS ∧ Turns w w' (fun k => k = rb))
theorem Tryz.info56:(Tryz.prog.info? 56).map (fun i => (i.zero,i.size,i.bytes)) = some (some (.agg #[.int .i64 0,.int .i64 0,.string ⟨#[]⟩,.int .i64 0,.int .i64 0,.slice none 0 0]),6,72):=by kernel_rfl
set_option maxHeartbeats 6400000 in
set_option maxRecDepth 20000 in
theorem line_any (rb:Nat) (c:CompS) (fs:Value) (l:List UInt8) (w:World) (hR:RdAt w rb 271 [] l) (hl:l.length ≤ 2 ^ 40) (hG:Glob w) (hrb8:11 ≤ rb) (hF:FieldsN w fs c.2) (hc:CompOk c) (hfr:∀ k,fs.ownBlock = some k → k ≠ rb) :
 Calls Tryz.prog 237 #[.pointer (some ⟨rb,0,none⟩),.agg #[.string (mk c.1),fs]] w (LnEnds w rb (lineL c l)):=by
 obtain ⟨i0,hi0,hz0,hz1,hz2⟩:=info_parts Tryz.info56
 have hrb:=hR.lt
 obtain ⟨fa,fc,hff⟩:=hF.form
 obtain ⟨m,hm⟩:∃ m,m = c.2.length:=⟨_,rfl⟩
 rw [← hm] at hff
 subst hff
 have HM:Hid (m = c.2.length):=hm
 obtain ⟨hc1,hc2,hc3⟩:=hc
 rw [← hm] at hc2
 have HC3:Hid (∀ f ∈ c.2,f.1.length ≤ 8 ∧ 1 ≤ f.2 ∧ f.2 ≤ 5):=hc3
 have HFi:Hid (FieldsN w (.slice fa m fc) c.2):=hF
 have HFr:Hid (∀ k,(Value.slice fa m fc).ownBlock = some k → k ≠ rb):=hfr
 have HFl:Hid (∀ k,(Value.slice fa m fc).ownBlock = some k → k < w.heap.size):=hF.lt
 have HGl:Hid (Glob w):=hG
 obtain ⟨W1,hW1⟩:∃ W1,W1 = w.alloc (.cells #[.string (mk c.1),.slice fa m fc] 138):=⟨_,rfl⟩
 have hB1:Below w.heap.size w W1:=by rw [hW1];exact (Below.refl _ _).alloc (Nat.le_refl _) _
 have hs1:W1.heap.size = w.heap.size + 1:=by rw [hW1];simp
 have hbl:W1.heap[w.heap.size]? = some (.cells #[.string (mk c.1),.slice fa m fc] 138 (0,0)):=by rw [hW1];exact heap_alloc_at rfl _
 have HS:Hid (Calls Tryz.prog 186 #[.pointer (some ⟨rb,0,none⟩),.string (mk c.1)] W1.drew fun e w' => ((Lib.hasPrefix l c.1 = true ∧ e = .returned (.tuple #[])) ∨ (Lib.hasPrefix l c.1 = false ∧ e = .panicked wrongS)) ∧ Rd w w' rb 271 [] (Lib.trimPrefix l c.1) ∧ w'.heap[w.heap.size]? = some (.cells #[.string (mk c.1),.slice fa m fc] 138 (0,0))):=by
  refine (skip_any rb 271 [] l c.1 W1.drew ((hR.below hB1).keep rfl)).mono ?_
  rintro e w' ⟨h1,h2⟩
  exact ⟨h1,⟨h2.rest,(Turns.ofBelow _ hB1).trans' ⟨h2.turns.os,h2.turns.tape,h2.turns.output,h2.turns.size,h2.turns.block⟩⟩,(h2.turns.block w.heap.size (by show _ < W1.heap.size;omega) (by omega)).trans hbl⟩
 clear hR hF hG hfr hm hB1 hs1 hbl hc3
 cases hp:Lib.hasPrefix l c.1 with
 | false =>
  have HL:Hid (lineL c l = none):=by show _ = _;unfold lineL;rw [hp];rfl
  have HS2:Hid (Calls Tryz.prog 186 #[.pointer (some ⟨rb,0,none⟩),.string (mk c.1)] (w.alloc (.cells #[.string (mk c.1),.slice fa m fc] 138)).drew fun e w' => e = .panicked wrongS ∧ Turns w w' (fun k => k = rb)):=by
   rw [hW1] at HS
   refine Calls.mono HS.out ?_
   rintro e w' ⟨⟨h1,_⟩ | ⟨_,rfl⟩,h2,_⟩
   · rw [hp] at h1;cases h1
   · exact ⟨rfl,h2.turns⟩
  clear HS hp
  go_enter Tryz.func237,Tryz.ntmps237
  go_wp2_with fail
  go_region_dies
  all_goals refine Calls.mono HS2.out ?_
  all_goals rintro e w2 ⟨rfl,h2⟩
  all_goals exact ⟨rfl,Or.inr ⟨HL.out,rfl,h2⟩⟩
 | true =>
  have HL:Hid (lineL c l = match fieldsGoL c.2 [] (Lib.trimPrefix l c.1) with
   | none => none
   | some (vs,r) => if Lib.hasPrefix r [10] then some (vs,Lib.trimPrefix r [10]) else none):=by show _ = _;unfold lineL;rw [hp];rfl
  have hl2:=trim_len l c.1
  have HS2:Hid (Calls Tryz.prog 186 #[.pointer (some ⟨rb,0,none⟩),.string (mk c.1)] (w.alloc (.cells #[.string (mk c.1),.slice fa m fc] 138)).drew fun e w' => e = .returned (.tuple #[]) ∧ Rd w w' rb 271 [] (Lib.trimPrefix l c.1) ∧ w'.heap[w.heap.size]? = some (.cells #[.string (mk c.1),.slice fa m fc] 138 (0,0))):=by
   rw [hW1] at HS
   refine Calls.mono HS.out ?_
   rintro e w' ⟨⟨_,rfl⟩ | ⟨h1,_⟩,h2,h3⟩
   · exact ⟨rfl,h2,h3⟩
   · rw [hp] at h1;cases h1
  clear HS hp
  generalize Lib.trimPrefix l c.1 = l1 at HL HS2 hl2
  go_enter Tryz.func237,Tryz.ntmps237
  go_wp2_with fail
  go_region_with (go_at_call 186;refine Calls.mono HS2.out ?_;rintro e w2 ⟨rfl,h2,h3⟩)
  have c0:w2.cell? ⟨w.heap.size,0,none⟩ = some (.string (mk c.1)):=by rw [cell_row h3];rfl
  have c1:w2.cell? ⟨w.heap.size,1,none⟩ = some (.slice fa m fc):=by rw [cell_row h3];rfl
  have hs2:w.heap.size < w2.heap.size:=(Array.getElem?_eq_some_iff.1 h3).1
  have HR2:Hid (Rd w w2 rb 271 [] l1):=h2
  clear h2 h3
  have HFi2:Hid (FieldsN w2 (.slice fa m fc) c.2):=HFi.out.keep (by omega) fun k hk hkl => HR2.out.turns.block k hkl (HFr.out k hk)
  have hm4:m ≤ 4:=hc2
  go_wp2_with fail
  go_loopw [5,17] (fun s t wr => ∃ (q:Nat) (sa:Option Addr) (sc:Nat) (acc:List SV) (lvs:List Value) (r:List UInt8),q ≤ m ∧ t = .int .i64 q ∧ s = .slice sa q sc ∧ Hid (q = acc.length) ∧ r.length ≤ 2 ^ 40 ∧ Hid (fieldsGoL c.2 [] l1 = fieldsGoL (c.2.drop q) acc r) ∧ Hid (ValsOwn wr (w.heap.size + 1) (.slice sa q sc) acc lvs) ∧ Hid (Rd w wr rb 271 [] r) ∧ wr.cell? ⟨w.heap.size,0,none⟩ = some (.string (mk c.1)) ∧ wr.cell? ⟨w.heap.size,1,none⟩ = some (.slice fa m fc) ∧ w.heap.size < wr.heap.size ∧ Hid (FieldsN wr (.slice fa m fc) c.2)) (fun _ t _ => m - (intOf t).toNat)
  case atStart => exact ⟨0,none,0,[],[],l1,by omega,rfl,rfl,rfl,by omega,rfl,⟨rfl,World.ownsRow_nil _ _ _ _,fun j h => by simp at h⟩,HR2,c0,c1,hs2,HFi2⟩
  case round =>
   obtain ⟨q,sa,sc,acc,lvs,r,hq,rfl,rfl,HA,hr,HGo,HV,HR,d0,d1,hsr,HFr2⟩:=hrel
   by_cases hlt:q < m
   · have hqc:q < c.2.length:=by rw [← HM.out];exact hlt
     have hdr:c.2.drop q = c.2[q] :: c.2.drop (q + 1):=List.drop_eq_getElem_cons hqc
     have hk:=HC3.out c.2[q] (List.getElem_mem hqc)
     obtain ⟨g,hfa,e0,e1,hgl⟩:∃ g,fa = some ⟨g,0,none⟩ ∧ wr.cell? ⟨g,q * 2,none⟩ = some (.string (mk c.2[q].1)) ∧ wr.cell? ⟨g,q * 2 + 1,none⟩ = some (.int .i64 (c.2[q].2:Int)) ∧ m ≤ fc:=by
      rcases HFr2.out with ⟨h1,h2⟩ | ⟨g,c',h1,h2,h3,h4⟩
      · rw [h2] at hqc;simp at hqc
      · simp at h1
        exact ⟨g,h1.1,(h4 q hqc).1,(h4 q hqc).2,by rw [h1.2.2,HM.out];exact h2⟩
     subst hfa
     have HGo2:Hid (fieldsGoL c.2 [] l1 = fieldsGoL (c.2[q] :: c.2.drop (q + 1)) acc r):=by show _ = _;rw [HGo.out,hdr]
     clear hdr
     generalize c.2[q] = f at hk e0 e1 HGo2
     obtain ⟨fn,fk⟩:=f
     simp only at hk e0 e1
     obtain ⟨hk1,hk2,hk3⟩:=hk
     have s1:¬ 9223372036854775807 < 1 + (mk fn).size:=by rw [size_mk];omega
     have s2:¬ 9223372036854775807 < (mk (32 :: fn)).size + 1:=by rw [size_mk];simp;omega
     have e2:(⟨#[32]⟩:ByteArray) ++ mk fn = mk (32 :: fn):=mk_append [32] fn
     have e3:mk (32 :: fn) ++ (⟨#[61]⟩:ByteArray) = mk (32 :: (fn ++ [61])):=mk_append (32 :: fn) [61]
     obtain ⟨Wa,hWa⟩:∃ Wa,Wa = wr.alloc (.cells #[.string (mk fn),.int .i64 (fk:Int)] 135):=⟨_,rfl⟩
     have hBa:Below wr.heap.size wr Wa:=by rw [hWa];exact (Below.refl _ _).alloc (Nat.le_refl _) _
     have hsa:Wa.heap.size = wr.heap.size + 1:=by rw [hWa];simp
     have hba:Wa.heap[wr.heap.size]? = some (.cells #[.string (mk fn),.int .i64 (fk:Int)] 135 (0,0)):=by rw [hWa];exact heap_alloc_at rfl _
     have hrr:=HR.out.rest.lt
     have HSk:Hid (Calls Tryz.prog 186 #[.pointer (some ⟨rb,0,none⟩),.string (mk (32 :: (fn ++ [61])))] Wa.drew fun e w' => ((Lib.hasPrefix r (32 :: (fn ++ [61])) = true ∧ e = .returned (.tuple #[])) ∨ (Lib.hasPrefix r (32 :: (fn ++ [61])) = false ∧ e = .panicked wrongS)) ∧ Rd wr w' rb 271 [] (Lib.trimPrefix r (32 :: (fn ++ [61]))) ∧ w'.heap[wr.heap.size]? = some (.cells #[.string (mk fn),.int .i64 (fk:Int)] 135 (0,0))):=by
      refine (skip_any rb 271 [] r (32 :: (fn ++ [61])) Wa.drew ((HR.out.rest.below hBa).keep rfl)).mono ?_
      rintro e w' ⟨h1,h2⟩
      exact ⟨h1,⟨h2.rest,(Turns.ofBelow _ hBa).trans' ⟨h2.turns.os,h2.turns.tape,h2.turns.output,h2.turns.size,h2.turns.block⟩⟩,(h2.turns.block wr.heap.size (by show _ < Wa.heap.size;omega) (by omega)).trans hba⟩
     rw [hWa] at HSk
     clear hBa hsa hba hWa
     cases hp:Lib.hasPrefix r (32 :: (fn ++ [61])) with
     | false =>
      rw [hp] at HSk
      have HN:Hid (lineL c l = none):=by
       show _ = _
       rw [HL.out,HGo2.out,fieldsGoL,if_neg (by rw [hp];decide)]
      have HS2:Hid (Calls Tryz.prog 186 #[.pointer (some ⟨rb,0,none⟩),.string (mk (32 :: (fn ++ [61])))] (wr.alloc (.cells #[.string (mk fn),.int .i64 (fk:Int)] 135)).drew fun e w' => e = .panicked wrongS ∧ Turns w w' (fun k => k = rb)):=by
       refine Calls.mono HSk.out ?_
       rintro e w' ⟨⟨h1,_⟩ | ⟨_,rfl⟩,h2,_⟩
       · cases h1
       · exact ⟨rfl,HR.out.turns.trans' h2.turns⟩
      clear HSk hp
      go_wp2_with fail
      go_region_dies
      all_goals refine Calls.mono HS2.out ?_
      all_goals rintro e w2 ⟨rfl,h2⟩
      all_goals exact ⟨rfl,Or.inr ⟨HN.out,rfl,h2⟩⟩
     | true =>
      rw [hp] at HSk
      have hrl:=trim_len r (32 :: (fn ++ [61]))
      have HS2:Hid (Calls Tryz.prog 186 #[.pointer (some ⟨rb,0,none⟩),.string (mk (32 :: (fn ++ [61])))] (wr.alloc (.cells #[.string (mk fn),.int .i64 (fk:Int)] 135)).drew fun e w' => e = .returned (.tuple #[]) ∧ w'.cell? ⟨wr.heap.size,0,none⟩ = some (.string (mk fn)) ∧ w'.cell? ⟨wr.heap.size,1,none⟩ = some (.int .i64 (fk:Int)) ∧ Hid (Rd wr w' rb 271 [] (Lib.trimPrefix r (32 :: (fn ++ [61]))))):=by
       refine Calls.mono HSk.out ?_
       rintro e w' ⟨⟨_,rfl⟩ | ⟨h1,_⟩,h2,h3⟩
       · exact ⟨rfl,by rw [cell_row h3];rfl,by rw [cell_row h3];rfl,h2⟩
       · cases h1
      have HGo3:Hid (fieldsGoL c.2 [] l1 = match valueL fk (Lib.trimPrefix r (32 :: (fn ++ [61]))) with
       | none => none
       | some (x,r') => fieldsGoL (c.2.drop (q + 1)) (acc ++ [x]) r'):=by
       show _ = _
       rw [HGo2.out,fieldsGoL,if_pos hp]
      clear HSk hp HGo2
      generalize Lib.trimPrefix r (32 :: (fn ++ [61])) = r2 at HS2 HGo3 hrl
      go_wp2_with fail
      go_region_with (go_at_call 186;refine Calls.mono HS2.out ?_;rintro e w3 ⟨rfl,n0,n1,HR3⟩)
      have HRw:Hid (Rd w w3 rb 271 [] r2):=HR.out.trans HR3.out
      have hs3:wr.heap.size ≤ w3.heap.size:=HR3.out.turns.size
      have HVl:Hid (Calls Tryz.prog 268 #[.pointer (some ⟨rb,0,none⟩),.int .i64 fk] w3 _):=value_any fk hk2 hk3 rb r2 w3 HR3.out.rest (by omega) (HGl.out.turns HRw.out.turns (fun k hk => by subst hk;exact hrb8)) hrb8
      go_wp2_with fail
      refine Calls.mono HVl.out ?_
      rintro e w4 (⟨x,r4,lv,hv,rfl,ht4,ho4⟩ | ⟨hn,rfl,ht4⟩)
      · obtain ⟨la,lc,rfl⟩:=own_form ho4
        have hr4:=valueL_len hv
        have HR4:Hid (Rd w w4 rb 271 [] r4):=HRw.out.trans ht4
        have hs4:w3.heap.size ≤ w4.heap.size:=ht4.turns.size
        have HV4:Hid (ValsOwn w4 (w.heap.size + 1) (.slice sa q sc) acc lvs):=HV.out.keep fun k h1 h2 => (ht4.turns.block k (by omega) (by omega)).trans (HR3.out.turns.block k h2 (by omega))
        have HO4:Hid (w4.ownsRow (w.heap.size + 1) 3 1 (.slice la x.l.length lc) x.l.length (x.l.map (Value.int .i64))):=own_base ho4 (by omega)
        have HGo4:Hid (fieldsGoL c.2 [] l1 = fieldsGoL (c.2.drop (q + 1)) (acc ++ [x]) r4):=by
         show _ = _
         rw [HGo3.out,hv]
        have k0:w4.cell? ⟨w.heap.size,0,none⟩ = some (.string (mk c.1)):=(World.cell?_of_block (a:=⟨w.heap.size,0,none⟩) ((ht4.turns.block w.heap.size (by omega) (by omega)).trans (HR3.out.turns.block w.heap.size hsr (by omega)))).trans d0
        have k1:w4.cell? ⟨w.heap.size,1,none⟩ = some (.slice (some ⟨g,0,none⟩) m fc):=(World.cell?_of_block (a:=⟨w.heap.size,1,none⟩) ((ht4.turns.block w.heap.size (by omega) (by omega)).trans (HR3.out.turns.block w.heap.size hsr (by omega)))).trans d1
        have HF4:Hid (FieldsN w4 (.slice (some ⟨g,0,none⟩) m fc) c.2):=HFr2.out.keep (by omega) fun k hk hkl => (ht4.turns.block k (by omega) (HFr.out k hk)).trans (HR3.out.turns.block k hkl (HFr.out k hk))
        have HRow:Hid (w4.ownsRow (w.heap.size + 1) 56 6 (.slice sa q sc) q (flatSV acc lvs)):=by
         have:=HV4.out.row
         rw [← HA.out] at this
         exact this
        clear ht4 ho4 hv n0 n1 d0 d1
        simp only [svCells]
        go_wp2_with (at_builtin;refine wpList_append_own_at _ rfl _ _ 40 rfl (w.heap.size + 1) 56 i0 _ 6 72 Tryz.underlying40 hi0 hz0 hz1 hz2 rfl (by decide) _ _ _ rfl (HRow.out.alloc _) ⟨w4.heap.size,0,none⟩ 1 1 (svCells x (.slice la x.l.length lc)) rfl rfl (new_cells (svCells x (.slice la x.l.length lc))) (svCells_one x ⟨_,_,_,rfl⟩) (by unfold maxLen;omega) (by omega) (by simp;omega) ?_;intro v' w6 hown6 hgrow6 _ _;obtain ⟨sa',sc',rfl⟩:=own_form hown6;have HO6:Hid (w6.ownsRow (w.heap.size + 1) 56 6 (.slice sa' (q + 1) sc') (q + 1) (flatSV acc lvs ++ svCells x (.slice la x.l.length lc))):=hown6;have HG6:Hid ((w4.alloc (.cells (svCells x (.slice la x.l.length lc)).toArray 56)).grownBy w6 (Value.slice sa q sc).ownBlock):=hgrow6;clear hown6 hgrow6)
        have hg6:∀ k,k < w4.heap.size → (∀ j,(Value.slice sa q sc).ownBlock = some j → k ≠ j) → w6.heap[k]? = w4.heap[k]?:=fun k hk hn => (HG6.out.block k (by simp;omega) (fun e => hn k e.symm rfl)).trans (Below.heap_alloc _ _ _ hk)
        have hrow:∀ j,(Value.slice sa q sc).ownBlock = some j → w.heap.size + 1 ≤ j:=fun j hj => (HRow.out.lt j hj).1
        refine ⟨⟨q + 1,sa',sc',acc ++ [x],lvs ++ [.slice la x.l.length lc],r4,by omega,rfl,rfl,?_,by omega,HGo4,?_,?_,?_,?_,?_,?_⟩,by simp [intOf];omega⟩
        · show _ = _;rw [HA.out];simp
        · refine ValsOwn.push (W:=w4.alloc (.cells (svCells x (.slice la x.l.length lc)).toArray 56)) (HV4.out.keep fun k _ h2 => Below.heap_alloc _ _ _ h2) (HO4.out.alloc _) ?_ HG6.out
          rw [← HA.out];exact HO6.out
        · exact (HR4.out.below ((Below.refl _ _).alloc (Nat.le_refl _) _)).grown HG6.out (fun k hk => by have:=hrow k hk;omega) hrb
        · exact (World.cell?_of_block (a:=⟨w.heap.size,0,none⟩) (hg6 w.heap.size (by omega) (fun j hj => by have:=hrow j hj;omega))).trans k0
        · exact (World.cell?_of_block (a:=⟨w.heap.size,1,none⟩) (hg6 w.heap.size (by omega) (fun j hj => by have:=hrow j hj;omega))).trans k1
        · have:=HG6.out.size;simp at this;omega
        · refine HF4.out.keep (by have:=HG6.out.size;simp at this;omega) fun k hk hkl => hg6 k hkl (fun j hj => by have:=hrow j hj;have:=HFl.out k hk;omega)
      · go_wp2_with fail
        refine ⟨rfl,Or.inr ⟨?_,rfl,HRw.out.turns.trans' ht4⟩⟩
        rw [HL.out,HGo3.out,hn]
   · obtain rfl:q = m:=by omega
     have HGe:Hid (fieldsGoL c.2 [] l1 = some (acc,r)):=by
      show _ = _
      rw [HGo.out,List.drop_of_length_le (by rw [← HM.out];omega),fieldsGoL]
     have HSk:Hid (Calls Tryz.prog 186 #[.pointer (some ⟨rb,0,none⟩),.string (mk [10])] wr _):=skip_any rb 271 [] r [10] wr HR.out.rest
     go_wp2_with fail
     refine Calls.mono HSk.out ?_
     rintro e w3 ⟨⟨h1,rfl⟩ | ⟨h1,rfl⟩,h2⟩
     · go_wp2_with fail
       go_ret
       refine Or.inl ⟨acc,_,sa,sc,lvs,by rw [HL.out,HGe.out];simp only [h1,if_true],by rw [← HA.out];rfl,HR.out.trans h2,?_⟩
       have hv:=HV.out.keep (W':=w3) fun k hk1 hk2 => h2.turns.block k hk2 (by omega)
       rw [← HA.out]
       exact ⟨hv.len,own_base (by have:=hv.row;exact this) (by omega),fun j h h' => own_base (hv.lists j h h') (by omega)⟩
     · go_wp2_with fail
       refine ⟨rfl,Or.inr ⟨by rw [HL.out,HGe.out];simp [h1],rfl,(HR.out.trans h2).turns⟩⟩
end Go.Proofs.YthkbeaffkcfgiabGreatDoor
