import Derived.Test.YthkbeaffkcfgiabGreatDoorR04
import Derived.Test.YthkbeaffkcfgiabGreatDoorR05
import Derived.Test.YthkbeaffkcfgiabGreatDoorR08
import Derived.Test.YthkbeaffkcfgiabGreatDoorR03
set_option linter.unusedSimpArgs false
set_option linter.unusedVariables false
namespace Go.Proofs.YthkbeaffkcfgiabGreatDoor
open Go.RowKit
structure ColAt (W:World) (F:Nat → Prop) (cb ct et sz n:Nat) (xs:List Value):Prop where
 me:F cb
 row:∃ v,W.heap[cb]? = some (.cells #[v] ct (0,0)) ∧ W.ownsRow 0 et sz v n xs ∧ ∀ k,v.ownBlock = some k → F k ∧ k ≠ cb
theorem ColAt.turn {W W':World} {F F':Nat → Prop} {cb ct et sz n:Nat} {xs:List Value} (h:ColAt W F cb ct et sz n xs) (hb:∀ k,F k → k < W.heap.size → W'.heap[k]? = W.heap[k]? ∧ F' k):ColAt W' F' cb ct et sz n xs:=by
 obtain ⟨h1,v,h2,h3,h4⟩:=h
 have hc:cb < W.heap.size:=(Array.getElem?_eq_some_iff.1 h2).1
 refine ⟨(hb cb h1 hc).2,v,(hb cb h1 hc).1.trans h2,own_turn h3 fun k hk hl => (hb k (h4 k hk).1 hl).1,fun k hk => ⟨(hb k (h4 k hk).1 (h3.lt k hk).2).2,(h4 k hk).2⟩⟩
theorem col_done {F:Nat → Prop} {w W1 w2:World} {cb ct et sz n m:Nat} {v v':Value} {xs ys:List Value} (h1:F cb) (h2:w.heap[cb]? = some (.cells #[v] ct (0,0))) (h3:w.ownsRow 0 et sz v n xs) (h4:∀ k,v.ownBlock = some k → F k ∧ k ≠ cb)
 (hb1:Below w.heap.size w W1) (g1:w2.ownsRow 0 et sz v' m ys) (g2:W1.grownBy w2 v.ownBlock) (g3:v'.ownBlock = v.ownBlock ∨ ∃ g,v'.ownBlock = some g ∧ W1.heap.size ≤ g) :
 Turns w (w2.setCell ⟨cb,0,none⟩ v') F ∧ ColAt (w2.setCell ⟨cb,0,none⟩ v') (grow F w (w2.setCell ⟨cb,0,none⟩ v')) cb ct et sz m ys:=by
 have hc:cb < w.heap.size:=(Array.getElem?_eq_some_iff.1 h2).1
 have hs1:=hb1.size
 have hblk:w2.heap[cb]? = w.heap[cb]?:=(g2.block cb (by omega) (fun e => (h4 cb e.symm).2 rfl)).trans (hb1.block cb hc)
 have hset:(w2.setCell ⟨cb,0,none⟩ v').heap[cb]? = some (.cells #[v'] ct (0,0)):=setCell_block _ (hblk.trans h2)
 have hz:(w2.setCell ⟨cb,0,none⟩ v').heap.size = w2.heap.size:=by simp [World.setCell]
 have hnt:∀ k,v'.ownBlock = some k → k ≠ cb ∧ (F k ∨ w.heap.size ≤ k):=fun k hk => by
  rcases g3 with h | ⟨g,h,hg⟩
  · rw [h] at hk;exact ⟨(h4 k hk).2,Or.inl (h4 k hk).1⟩
  · rw [h] at hk;simp at hk;subst hk;exact ⟨by omega,Or.inr (by omega)⟩
 refine ⟨Turns.set ((Turns.ofBelow F hb1).trans' (Turns.ofGrown g2 fun k hk _ => (h4 k hk).1)) cb 0 _ (fun _ => h1),Or.inl h1,v',hset,own_turn g1 fun k hk _ => Below.heap_setCell _ _ _ _ (hnt k hk).1,fun k hk => ⟨?_,(hnt k hk).1⟩⟩
 rcases (hnt k hk).2 with h | h
 · exact Or.inl h
 · exact Or.inr ⟨h,by rw [hz];exact (g1.lt k hk).2⟩
set_option maxHeartbeats 1600000 in
theorem insert_colB {F:Nat → Prop} (cb ct n r:Nat) (xs:List Value) (w:World) (hC:ColAt w F cb ct 4 1 n xs) (hr:r ≤ n) (hn:n ≤ 100) (hx1:∀ u ∈ xs,u.oneCell' = true) :
 Calls Tryz.prog 373 #[.pointer (some ⟨cb,0,none⟩),.int .i64 r] w fun e w' => e = .returned (.tuple #[]) ∧ Turns w w' F ∧ ColAt w' (grow F w w') cb ct 4 1 (n + 1) (setIn xs r [.bool false]):=by
 obtain ⟨h1,v,h2,h3,h4⟩:=hC
 have hc:cb < w.heap.size:=(Array.getElem?_eq_some_iff.1 h2).1
 have c0:w.cell? ⟨cb,0,none⟩ = some v:=by rw [cell_row h2];rfl
 have H1:Hid (F cb):=h1
 have H2:Hid (w.heap[cb]? = some (.cells #[v] ct (0,0))):=h2
 have H3:Hid (w.ownsRow 0 4 1 v n xs):=h3
 have H4:Hid (∀ k,v.ownBlock = some k → F k ∧ k ≠ cb):=h4
 have hne:cb ≠ w.heap.size:=by omega
 obtain ⟨W1,hW1⟩:∃ W1,W1 = w.alloc (.cells #[.bool false] 4):=⟨_,rfl⟩
 have HI:Hid (Calls Tryz.prog 376 #[v,.int .i64 r,.slice (some ⟨w.heap.size,0,none⟩) 1 1] W1 fun e w' => ∃ a' c',e = .returned (.slice a' (n + 1) c') ∧ w'.cell? ⟨cb,0,none⟩ = some v ∧ w'.frozen? ⟨cb,0,none⟩ = false ∧
  Hid (w'.ownsRow 0 4 1 (.slice a' (n + 1) c') (n + 1) (setIn xs r [.bool false]) ∧ W1.grownBy w' v.ownBlock ∧ ((Value.slice a' (n + 1) c').ownBlock = v.ownBlock ∨ ∃ g,(Value.slice a' (n + 1) c').ownBlock = some g ∧ W1.heap.size ≤ g))):=by
  have hb1:Below w.heap.size w W1:=by rw [hW1];exact (Below.refl _ _).alloc (Nat.le_refl _) _
  have ho:W1.ownsRow 0 4 1 v n xs:=own_turn h3 fun k _ hk => hb1.block k hk
  refine (insert_ownB 0 v n r xs w.heap.size (.bool false) rfl W1 ho hr (by omega) (Nat.zero_le _) hx1 (fun e => by have:=(h3.lt _ e).2;omega) (by rw [hW1];exact heap_alloc_at rfl _)).mono ?_
  rintro e w' ⟨v',rfl,g1,g2,g3⟩
  obtain ⟨a',c',rfl⟩:=own_form g1
  have hblk:w'.heap[cb]? = w.heap[cb]?:=(g2.block cb (by rw [hW1];simp;omega) (fun e => (h4 cb e.symm).2 rfl)).trans (hb1.block cb hc)
  exact ⟨a',c',rfl,(World.cell?_of_block (a:=⟨cb,0,none⟩) hblk).trans c0,(World.frozen?_of_block (a:=⟨cb,0,none⟩) hblk).trans (frozen_row h2 0),g1,g2,g3⟩
 rw [hW1] at HI
 clear h1 h2 h3 h4 hx1
 go_enter Tryz.func373,Tryz.ntmps373
 go_wp2_with (go_at_call 376;refine HI.out.mono ?_;rintro e w2 ⟨a',c',rfl,d0,f0,HF⟩)
 go_end0
 rw [← hW1] at HF
 obtain ⟨g1,g2,g3⟩:=HF.out
 exact ⟨rfl,col_done H1.out H2.out H3.out H4.out (by rw [hW1];exact (Below.refl _ _).alloc (Nat.le_refl _) _) g1 g2 g3⟩
set_option maxHeartbeats 1600000 in
theorem delete_colB {F:Nat → Prop} (cb ct n r:Nat) (xs:List Value) (w:World) (hC:ColAt w F cb ct 4 1 n xs) (hr:r < n) (hn:n ≤ 100) (hx1:∀ u ∈ xs,u.oneCell' = true) :
 Calls Tryz.prog 370 #[.pointer (some ⟨cb,0,none⟩),.int .i64 r] w fun e w' => e = .returned (.tuple #[]) ∧ Turns w w' F ∧ ColAt w' (grow F w w') cb ct 4 1 (n - 1) (cutOut xs r 1):=by
 obtain ⟨h1,v,h2,h3,h4⟩:=hC
 have hc:cb < w.heap.size:=(Array.getElem?_eq_some_iff.1 h2).1
 have c0:w.cell? ⟨cb,0,none⟩ = some v:=by rw [cell_row h2];rfl
 have H1:Hid (F cb):=h1
 have H2:Hid (w.heap[cb]? = some (.cells #[v] ct (0,0))):=h2
 have H3:Hid (w.ownsRow 0 4 1 v n xs):=h3
 have H4:Hid (∀ k,v.ownBlock = some k → F k ∧ k ≠ cb):=h4
 have HI:Hid (Calls Tryz.prog 375 #[v,.int .i64 r,.int .i64 ((r:Int) + 1)] w fun e w' => ∃ a' c',e = .returned (.slice a' (n - 1) c') ∧ w'.cell? ⟨cb,0,none⟩ = some v ∧ w'.frozen? ⟨cb,0,none⟩ = false ∧
  Hid (w'.ownsRow 0 4 1 (.slice a' (n - 1) c') (n - 1) (cutOut xs r 1) ∧ w.grownBy w' v.ownBlock ∧ (Value.slice a' (n - 1) c').ownBlock = v.ownBlock)):=by
  refine (delete_ownB 0 v n r xs w h3 hr hx1).mono ?_
  rintro e w' ⟨v',rfl,g1,g2,g3⟩
  obtain ⟨a',c',rfl⟩:=own_form g1
  have hblk:w'.heap[cb]? = w.heap[cb]?:=g2.block cb hc (fun e => (h4 cb e.symm).2 rfl)
  exact ⟨a',c',rfl,(World.cell?_of_block (a:=⟨cb,0,none⟩) hblk).trans c0,(World.frozen?_of_block (a:=⟨cb,0,none⟩) hblk).trans (frozen_row h2 0),g1,g2,g3⟩
 clear h1 h2 h3 h4 hx1
 go_enter Tryz.func370,Tryz.ntmps370
 go_wp2_with (go_at_call 375;refine HI.out.mono ?_;rintro e w2 ⟨a',c',rfl,d0,f0,HF⟩)
 go_end0
 obtain ⟨g1,g2,g3⟩:=HF.out
 exact ⟨rfl,col_done H1.out H2.out H3.out H4.out (Below.refl _ _) g1 g2 (Or.inl g3)⟩
def kPtr (k:Nat):Nat:=if k = 1 then 349 else if k = 2 then 354 else if k = 3 then 359 else if k = 4 then 364 else 369
def kStr (k:Nat):Nat:=if k = 1 then 353 else if k = 2 then 358 else if k = 3 then 363 else if k = 4 then 368 else 373
def kElt (k:Nat):Nat:=if k = 1 then 3 else if k = 2 then 4 else if k = 3 then 9 else if k = 4 then 46 else 54
def kSz (k:Nat):Nat:=if k = 4 then 2 else 1
abbrev colVal (k cb:Nat):Value:=.iface (kPtr k) (.pointer (some ⟨cb,0,none⟩))
set_option maxHeartbeats 1600000 in
theorem new_col (k:Nat) (w:World) (h1:1 ≤ k) (h5:k ≤ 5):Calls Tryz.prog 271 #[.int .i64 k] w fun e w' => e = .returned (colVal k w.heap.size) ∧ w' = w.alloc (.cells #[.slice none 0 0] (kStr k)):=by
 have h:k = 1 ∨ k = 2 ∨ k = 3 ∨ k = 4 ∨ k = 5:=by omega
 rcases h with rfl | rfl | rfl | rfl | rfl
 all_goals (go_enter Tryz.func271,Tryz.ntmps271)
 all_goals go_wp2
 all_goals go_ret
 all_goals exact ⟨rfl,rfl⟩
set_option maxHeartbeats 1600000 in
theorem insert_colS {F:Nat → Prop} (cb ct n r:Nat) (xs:List Value) (w:World) (hC:ColAt w F cb ct 9 1 n xs) (hr:r ≤ n) (hn:n ≤ 100) (hx1:∀ u ∈ xs,u.oneCell' = true) :
 Calls Tryz.prog 384 #[.pointer (some ⟨cb,0,none⟩),.int .i64 r] w fun e w' => e = .returned (.tuple #[]) ∧ Turns w w' F ∧ ColAt w' (grow F w w') cb ct 9 1 (n + 1) (setIn xs r [.string ⟨#[]⟩]):=by
 obtain ⟨h1,v,h2,h3,h4⟩:=hC
 have hc:cb < w.heap.size:=(Array.getElem?_eq_some_iff.1 h2).1
 have c0:w.cell? ⟨cb,0,none⟩ = some v:=by rw [cell_row h2];rfl
 have H1:Hid (F cb):=h1
 have H2:Hid (w.heap[cb]? = some (.cells #[v] ct (0,0))):=h2
 have H3:Hid (w.ownsRow 0 9 1 v n xs):=h3
 have H4:Hid (∀ k,v.ownBlock = some k → F k ∧ k ≠ cb):=h4
 have hne:cb ≠ w.heap.size:=by omega
 obtain ⟨W1,hW1⟩:∃ W1,W1 = w.alloc (.cells #[.string ⟨#[]⟩] 9):=⟨_,rfl⟩
 have HI:Hid (Calls Tryz.prog 387 #[v,.int .i64 r,.slice (some ⟨w.heap.size,0,none⟩) 1 1] W1 fun e w' => ∃ a' c',e = .returned (.slice a' (n + 1) c') ∧ w'.cell? ⟨cb,0,none⟩ = some v ∧ w'.frozen? ⟨cb,0,none⟩ = false ∧
  Hid (w'.ownsRow 0 9 1 (.slice a' (n + 1) c') (n + 1) (setIn xs r [.string ⟨#[]⟩]) ∧ W1.grownBy w' v.ownBlock ∧ ((Value.slice a' (n + 1) c').ownBlock = v.ownBlock ∨ ∃ g,(Value.slice a' (n + 1) c').ownBlock = some g ∧ W1.heap.size ≤ g))):=by
  have hb1:Below w.heap.size w W1:=by rw [hW1];exact (Below.refl _ _).alloc (Nat.le_refl _) _
  have ho:W1.ownsRow 0 9 1 v n xs:=own_turn h3 fun k _ hk => hb1.block k hk
  refine (insert_ownS 0 v n r xs w.heap.size (.string ⟨#[]⟩) rfl W1 ho hr (by omega) (Nat.zero_le _) hx1 (fun e => by have:=(h3.lt _ e).2;omega) (by rw [hW1];exact heap_alloc_at rfl _)).mono ?_
  rintro e w' ⟨v',rfl,g1,g2,g3⟩
  obtain ⟨a',c',rfl⟩:=own_form g1
  have hblk:w'.heap[cb]? = w.heap[cb]?:=(g2.block cb (by rw [hW1];simp;omega) (fun e => (h4 cb e.symm).2 rfl)).trans (hb1.block cb hc)
  exact ⟨a',c',rfl,(World.cell?_of_block (a:=⟨cb,0,none⟩) hblk).trans c0,(World.frozen?_of_block (a:=⟨cb,0,none⟩) hblk).trans (frozen_row h2 0),g1,g2,g3⟩
 rw [hW1] at HI
 clear h1 h2 h3 h4 hx1
 go_enter Tryz.func384,Tryz.ntmps384
 go_wp2_with (go_at_call 387;refine HI.out.mono ?_;rintro e w2 ⟨a',c',rfl,d0,f0,HF⟩)
 go_end0
 rw [← hW1] at HF
 obtain ⟨g1,g2,g3⟩:=HF.out
 exact ⟨rfl,col_done H1.out H2.out H3.out H4.out (by rw [hW1];exact (Below.refl _ _).alloc (Nat.le_refl _) _) g1 g2 g3⟩
set_option maxHeartbeats 1600000 in
theorem delete_colS {F:Nat → Prop} (cb ct n r:Nat) (xs:List Value) (w:World) (hC:ColAt w F cb ct 9 1 n xs) (hr:r < n) (hn:n ≤ 100) (hx1:∀ u ∈ xs,u.oneCell' = true) :
 Calls Tryz.prog 381 #[.pointer (some ⟨cb,0,none⟩),.int .i64 r] w fun e w' => e = .returned (.tuple #[]) ∧ Turns w w' F ∧ ColAt w' (grow F w w') cb ct 9 1 (n - 1) (cutOut xs r 1):=by
 obtain ⟨h1,v,h2,h3,h4⟩:=hC
 have hc:cb < w.heap.size:=(Array.getElem?_eq_some_iff.1 h2).1
 have c0:w.cell? ⟨cb,0,none⟩ = some v:=by rw [cell_row h2];rfl
 have H1:Hid (F cb):=h1
 have H2:Hid (w.heap[cb]? = some (.cells #[v] ct (0,0))):=h2
 have H3:Hid (w.ownsRow 0 9 1 v n xs):=h3
 have H4:Hid (∀ k,v.ownBlock = some k → F k ∧ k ≠ cb):=h4
 have HI:Hid (Calls Tryz.prog 386 #[v,.int .i64 r,.int .i64 ((r:Int) + 1)] w fun e w' => ∃ a' c',e = .returned (.slice a' (n - 1) c') ∧ w'.cell? ⟨cb,0,none⟩ = some v ∧ w'.frozen? ⟨cb,0,none⟩ = false ∧
  Hid (w'.ownsRow 0 9 1 (.slice a' (n - 1) c') (n - 1) (cutOut xs r 1) ∧ w.grownBy w' v.ownBlock ∧ (Value.slice a' (n - 1) c').ownBlock = v.ownBlock)):=by
  refine (delete_ownS 0 v n r xs w h3 hr hx1).mono ?_
  rintro e w' ⟨v',rfl,g1,g2,g3⟩
  obtain ⟨a',c',rfl⟩:=own_form g1
  have hblk:w'.heap[cb]? = w.heap[cb]?:=g2.block cb hc (fun e => (h4 cb e.symm).2 rfl)
  exact ⟨a',c',rfl,(World.cell?_of_block (a:=⟨cb,0,none⟩) hblk).trans c0,(World.frozen?_of_block (a:=⟨cb,0,none⟩) hblk).trans (frozen_row h2 0),g1,g2,g3⟩
 clear h1 h2 h3 h4 hx1
 go_enter Tryz.func381,Tryz.ntmps381
 go_wp2_with (go_at_call 386;refine HI.out.mono ?_;rintro e w2 ⟨a',c',rfl,d0,f0,HF⟩)
 go_end0
 obtain ⟨g1,g2,g3⟩:=HF.out
 exact ⟨rfl,col_done H1.out H2.out H3.out H4.out (Below.refl _ _) g1 g2 (Or.inl g3)⟩
end Go.Proofs.YthkbeaffkcfgiabGreatDoor
