import Derived.Test.YthkbeaffkcfgiabGreatDoorR09
import Derived.Test.YthkbeaffkcfgiabGreatDoorR04
set_option linter.unusedSimpArgs false
set_option linter.unusedVariables false
namespace Go.Proofs.YthkbeaffkcfgiabGreatDoor
open Go.RowKit
set_option maxHeartbeats 1600000 in
theorem insert_colH {F:Nat → Prop} (cb ct n r:Nat) (xs:List Value) (w:World) (hC:ColAt w F cb ct 46 2 n xs) (hr:r ≤ n) (hn:n ≤ 100) (hx1:∀ u ∈ xs,u.oneCell' = true) :
 Calls Tryz.prog 395 #[.pointer (some ⟨cb,0,none⟩),.int .i64 r] w fun e w' => e = .returned (.tuple #[]) ∧ Turns w w' F ∧ ColAt w' (grow F w w') cb ct 46 2 (n + 1) (setIn xs (r * 2) (hNews 0 0)):=by
 obtain ⟨h1,v,h2,h3,h4⟩:=hC
 have hc:cb < w.heap.size:=(Array.getElem?_eq_some_iff.1 h2).1
 have c0:w.cell? ⟨cb,0,none⟩ = some v:=by rw [cell_row h2];rfl
 have H1:Hid (F cb):=h1
 have H2:Hid (w.heap[cb]? = some (.cells #[v] ct (0,0))):=h2
 have H3:Hid (w.ownsRow 0 46 2 v n xs):=h3
 have H4:Hid (∀ k,v.ownBlock = some k → F k ∧ k ≠ cb):=h4
 have hne:cb ≠ w.heap.size:=by omega
 have hne2:cb ≠ w.heap.size + 1:=by omega
 obtain ⟨W1,hW1⟩:∃ W1,W1 = ((w.alloc (.cells #[.int .i64 0,.int .i64 0] 46)).alloc (.cells #[.int .i64 0,.int .i64 0] 46)).drew:=⟨_,rfl⟩
 have HI:Hid (Calls Tryz.prog 243 #[v,.int .i64 r,.slice (some ⟨w.heap.size + 1,0,none⟩) 1 1] W1 fun e w' => ∃ a' c',e = .returned (.slice a' (n + 1) c') ∧ w'.cell? ⟨cb,0,none⟩ = some v ∧ w'.frozen? ⟨cb,0,none⟩ = false ∧
  Hid (w'.ownsRow 0 46 2 (.slice a' (n + 1) c') (n + 1) (setIn xs (r * 2) (hNews 0 0)) ∧ W1.grownBy w' v.ownBlock ∧ ((Value.slice a' (n + 1) c').ownBlock = v.ownBlock ∨ ∃ g,(Value.slice a' (n + 1) c').ownBlock = some g ∧ W1.heap.size ≤ g))):=by
  have hb1:Below w.heap.size w W1:=by rw [hW1];exact (((Below.refl _ _).alloc (Nat.le_refl _) _).alloc (by simp) _).drew
  have ho:W1.ownsRow 0 46 2 v n xs:=own_turn h3 fun k _ hk => hb1.block k hk
  refine (insert_own 0 v n r xs (w.heap.size + 1) 0 0 W1 ho hr (by omega) (Nat.zero_le _) hx1 (fun e => by have:=(h3.lt _ e).2;omega) (by rw [hW1];exact heap_alloc_at (by simp) _)).mono ?_
  rintro e w' ⟨v',rfl,g1,g2,g3⟩
  obtain ⟨a',c',rfl⟩:=own_form g1
  have hblk:w'.heap[cb]? = w.heap[cb]?:=(g2.block cb (by rw [hW1];simp;omega) (fun e => (h4 cb e.symm).2 rfl)).trans (hb1.block cb hc)
  exact ⟨a',c',rfl,(World.cell?_of_block (a:=⟨cb,0,none⟩) hblk).trans c0,(World.frozen?_of_block (a:=⟨cb,0,none⟩) hblk).trans (frozen_row h2 0),g1,g2,g3⟩
 rw [hW1] at HI
 clear h1 h2 h3 h4 hx1
 go_enter Tryz.func395,Tryz.ntmps395
 go_wp2_with fail
 go_region_with (go_at_call 243;refine HI.out.mono ?_;rintro e w2 ⟨a',c',rfl,d0,f0,HF⟩)
 all_goals (rw [← hW1] at HF)
 all_goals (obtain ⟨g1,g2,g3⟩:=HF.out)
 all_goals go_end0
 all_goals exact ⟨rfl,col_done H1.out H2.out H3.out H4.out (by rw [hW1];exact (((Below.refl _ _).alloc (Nat.le_refl _) _).alloc (by simp) _).drew) g1 g2 g3⟩
set_option maxHeartbeats 1600000 in
theorem delete_colH {F:Nat → Prop} (cb ct n r:Nat) (xs:List Value) (w:World) (hC:ColAt w F cb ct 46 2 n xs) (hr:r < n) (hn:n ≤ 100) (hx1:∀ u ∈ xs,u.oneCell' = true) :
 Calls Tryz.prog 392 #[.pointer (some ⟨cb,0,none⟩),.int .i64 r] w fun e w' => e = .returned (.tuple #[]) ∧ Turns w w' F ∧ ColAt w' (grow F w w') cb ct 46 2 (n - 1) (cutOut xs (r * 2) 2):=by
 obtain ⟨h1,v,h2,h3,h4⟩:=hC
 have hc:cb < w.heap.size:=(Array.getElem?_eq_some_iff.1 h2).1
 have c0:w.cell? ⟨cb,0,none⟩ = some v:=by rw [cell_row h2];rfl
 have H1:Hid (F cb):=h1
 have H2:Hid (w.heap[cb]? = some (.cells #[v] ct (0,0))):=h2
 have H3:Hid (w.ownsRow 0 46 2 v n xs):=h3
 have H4:Hid (∀ k,v.ownBlock = some k → F k ∧ k ≠ cb):=h4
 have HI:Hid (Calls Tryz.prog 191 #[v,.int .i64 r,.int .i64 ((r:Int) + 1)] w fun e w' => ∃ a' c',e = .returned (.slice a' (n - 1) c') ∧ w'.cell? ⟨cb,0,none⟩ = some v ∧ w'.frozen? ⟨cb,0,none⟩ = false ∧
  Hid (w'.ownsRow 0 46 2 (.slice a' (n - 1) c') (n - 1) (cutOut xs (r * 2) 2) ∧ w.grownBy w' v.ownBlock ∧ (Value.slice a' (n - 1) c').ownBlock = v.ownBlock)):=by
  refine (delete_own 0 v n r xs w h3 hr hx1).mono ?_
  rintro e w' ⟨v',rfl,g1,g2,g3⟩
  obtain ⟨a',c',rfl⟩:=own_form g1
  have hblk:w'.heap[cb]? = w.heap[cb]?:=g2.block cb hc (fun e => (h4 cb e.symm).2 rfl)
  exact ⟨a',c',rfl,(World.cell?_of_block (a:=⟨cb,0,none⟩) hblk).trans c0,(World.frozen?_of_block (a:=⟨cb,0,none⟩) hblk).trans (frozen_row h2 0),g1,g2,g3⟩
 clear h1 h2 h3 h4 hx1
 go_enter Tryz.func392,Tryz.ntmps392
 go_wp2_with (go_at_call 191;refine HI.out.mono ?_;rintro e w2 ⟨a',c',rfl,d0,f0,HF⟩)
 go_end0
 obtain ⟨g1,g2,g3⟩:=HF.out
 exact ⟨rfl,col_done H1.out H2.out H3.out H4.out (Below.refl _ _) g1 g2 (Or.inl g3)⟩
end Go.Proofs.YthkbeaffkcfgiabGreatDoor
