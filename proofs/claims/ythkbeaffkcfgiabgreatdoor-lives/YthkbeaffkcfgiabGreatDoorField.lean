import Derived.Test.YthkbeaffkcfgiabGreatDoorFindAll
namespace Go.Proofs.YthkbeaffkcfgiabGreatDoor
open Go.RowKit

/-- Bytes as a text. -/
def mk (l : List UInt8) : ByteArray := ⟨l.toArray⟩
theorem mk_data (s : ByteArray) : mk s.data.toList = s := by cases s; simp [mk]
theorem data_mk (l : List UInt8) : (mk l).data.toList = l := by simp [mk]
theorem toList_mk (l : List UInt8) : (mk l).toList = l := by rw [_root_.Go.ByteArray.toList_eq]; exact data_mk l
theorem mk_inj {a b : List UInt8} (h : mk a = mk b) : a = b := by rw [← data_mk a, h, data_mk]
theorem size_mk (l : List UInt8) : (mk l).size = l.length := by rw [← ByteArray.size_data]; simp [mk]

theorem split_any (b : UInt8) (s : ByteArray) (m : Int) (W : World) (hs : s.size < 500) (hW : W.cell? ⟨3, 0, none⟩ = some (.int .i64 m)) :
    Calls Tryz.prog 194 #[.string s, .string ⟨#[b]⟩] W fun e w' =>
      e = .returned (.slice (some ⟨W.heap.size, 0, none⟩) (cutL b s.data.toList).length (cutL b s.data.toList).length) ∧ w' = W.alloc (.cells ((cutL b s.data.toList).map fun l => Value.string (mk l)).toArray 9) := by
  have := Tryz.strings_Split s ⟨#[b]⟩ m W (by omega) hW (Nat.le_refl 1)
  rw [count_cut b s] at this
  have e : (Lib.splitB ⟨#[b]⟩ 0 (Lib.countB s ⟨#[b]⟩) s).map Value.string = (cutL b s.data.toList).map fun l => Value.string (mk l) := by
    rw [← split_cut b s, List.map_map]
    refine List.map_congr_left fun x _ => ?_
    simp [mk_data]
  rw [e] at this
  exact this

set_option maxHeartbeats 800000 in
theorem readKind_no (s : ByteArray) (w : World) (hk : kindL s.data.toList = 0) : Calls Tryz.prog 279 #[.string s] w fun e w' => e = .panicked wrong ∧ w = w' := by
  have key : ∀ l : List UInt8, kindL l ≠ 0 → (s.toList == l) = false := fun l hl => by
    rw [beq_eq_false_iff_ne]
    intro e
    rw [_root_.Go.ByteArray.toList_eq] at e
    rw [e] at hk
    exact hl hk
  have k1 := key [105, 110, 116] (by decide)
  have k2 := key [98, 111, 111, 108] (by decide)
  have k3 := key [116, 101, 120, 116] (by decide)
  have k4 := key [114, 101, 102] (by decide)
  have k5 := key [108, 105, 115, 116] (by decide)
  clear key hk
  go_enter Tryz.func279, Tryz.ntmps279
  go_wp2
  exact ⟨rfl, rfl, rfl⟩

theorem kindOk_of (l : List UInt8) (h : kindL l ≠ 0) : KindOk (mk l) (kindL l) := by
  unfold kindL at h ⊢
  unfold KindOk
  split
  · left; rename_i e; subst e; exact ⟨rfl, rfl⟩
  · split
    · right; left; rename_i e; subst e; exact ⟨rfl, rfl⟩
    · split
      · right; right; left; rename_i e; subst e; exact ⟨rfl, rfl⟩
      · split
        · right; right; right; left; rename_i e; subst e; exact ⟨rfl, rfl⟩
        · split
          · right; right; right; right; rename_i e; subst e; exact ⟨rfl, rfl⟩
          · rename_i h1 h2 h3 h4 h5
            rw [if_neg h1, if_neg h2, if_neg h3, if_neg h4, if_neg h5] at h
            exact absurd rfl h

set_option maxHeartbeats 800000 in
theorem readField_any (word : List UInt8) (m : Int) (w : World) (hsz : word.length < 500) (hm : w.cell? ⟨3, 0, none⟩ = some (.int .i64 m)) :
    Calls Tryz.prog 247 #[.string (mk word)] w fun e w' => ((∃ f, fieldR word = some f ∧ e = .returned (.agg #[.string (mk f.1), .int .i64 (f.2 : Int)])) ∨ (fieldR word = none ∧ e = .panicked wrong)) ∧ Below w.heap.size w w' := by
  rw [← fieldL_eq]
  have hsz' : (mk word).size < 500 := by rw [size_mk]; exact hsz
  by_cases hn : nameL (Lib.cut word [58]).1 = true
  · by_cases hk : kindL (Lib.cut word [58]).2.1 = 0
    · have hf : fieldL word = none := by unfold fieldL; rw [if_neg (fun h => h.2 hk)]
      have h0 : 3 < w.heap.size := World.block_lt_of_cell? w ⟨3, 0, none⟩ hm
      have HC : Hid (∀ o : Obj, Calls Tryz.prog 278 #[.string (mk word), .string ⟨#[58]⟩] (w.alloc o) fun e w' => e = .returned (.tuple #[.string (mk (Lib.cut word [58]).1), .string (mk (Lib.cut word [58]).2.1), .bool (Lib.cut word [58]).2.2]) ∧ ∃ n, w' = (w.alloc o).drewN n) := fun o => by
        have := Tryz.strings_Cut (mk word) ⟨#[58]⟩ m (w.alloc o) (by omega) ((World.cell?_alloc_lt w o ⟨3, 0, none⟩ h0).trans hm)
        rw [data_mk] at this
        exact this
      have HNm : Hid (NameOk (mk (Lib.cut word [58]).1)) := (nameL_ok _).1 (by rw [data_mk]; exact hn)
      have HKd : Hid (kindL (mk (Lib.cut word [58]).2.1).data.toList = 0) := by show _ = _; rw [data_mk]; exact hk
      have HF : Hid (fieldL word = none) := hf
      clear hf hk hn hm
      generalize mk (Lib.cut word [58]).1 = nm at HC HNm
      generalize mk (Lib.cut word [58]).2.1 = kd at HC HKd
      generalize (Lib.cut word [58]).2.2 = fd at HC
      go_enter Tryz.func247, Tryz.ntmps247
      go_wp2_with fail
      refine Calls.mono (HC.out _) ?_
      rintro e w1 ⟨rfl, n1, rfl⟩
      go_wp2_with fail
      refine (readName_ok nm _ HNm.out).mono ?_
      rintro e w2 ⟨rfl, hb⟩
      have HB : Hid (Below w.heap.size w w2) := (below_drewN ((Below.refl _ _).alloc (Nat.le_refl _) _) _).trans (hb.mono (by simp))
      clear hb
      go_wp2_with fail
      refine (readKind_no kd _ HKd.out).mono ?_
      rintro e w3 ⟨rfl, rfl⟩
      go_wp2_with fail
      exact ⟨rfl, Or.inr ⟨HF.out, rfl⟩, HB.out⟩
    · have hf : fieldL word = some ((Lib.cut word [58]).1, kindL (Lib.cut word [58]).2.1) := by unfold fieldL; rw [if_pos ⟨hn, hk⟩]
      refine (readField_ok (mk word) (mk (Lib.cut word [58]).1) (kindL (Lib.cut word [58]).2.1) m w hm ⟨(nameL_ok _).1 (by rw [data_mk]; exact hn), hsz', mk (Lib.cut word [58]).2.1, kindOk_of _ hk, by rw [data_mk, data_mk], by rw [data_mk, data_mk]⟩).mono fun e w' ⟨he, hb⟩ => ⟨Or.inl ⟨_, hf, he⟩, hb⟩
  · have hf : fieldL word = none := by unfold fieldL; rw [if_neg (fun h => hn h.1)]
    have h0 : 3 < w.heap.size := World.block_lt_of_cell? w ⟨3, 0, none⟩ hm
    have HC : Hid (∀ o : Obj, Calls Tryz.prog 278 #[.string (mk word), .string ⟨#[58]⟩] (w.alloc o) fun e w' => e = .returned (.tuple #[.string (mk (Lib.cut word [58]).1), .string (mk (Lib.cut word [58]).2.1), .bool (Lib.cut word [58]).2.2]) ∧ ∃ n, w' = (w.alloc o).drewN n) := fun o => by
      have := Tryz.strings_Cut (mk word) ⟨#[58]⟩ m (w.alloc o) (by omega) ((World.cell?_alloc_lt w o ⟨3, 0, none⟩ h0).trans hm)
      rw [data_mk] at this
      exact this
    have HNm : Hid (¬ NameOk (mk (Lib.cut word [58]).1)) := fun h => hn (by have := (nameL_ok _).2 h; rw [data_mk] at this; exact this)
    have HZ : Hid ((mk (Lib.cut word [58]).1).size ≤ 1000000000) := by
      show _ ≤ _
      rw [size_mk]
      have : (Lib.cut word [58]).1.length ≤ word.length := by
        unfold Lib.cut
        split
        · simp [List.length_take]; omega
        · simp
      omega
    have HF : Hid (fieldL word = none) := hf
    clear hf hn hm
    generalize mk (Lib.cut word [58]).1 = nm at HC HNm HZ
    generalize mk (Lib.cut word [58]).2.1 = kd at HC
    generalize (Lib.cut word [58]).2.2 = fd at HC
    go_enter Tryz.func247, Tryz.ntmps247
    go_wp2_with fail
    refine Calls.mono (HC.out _) ?_
    rintro e w1 ⟨rfl, n1, rfl⟩
    go_wp2_with fail
    refine (readName_no nm _ HZ.out HNm.out).mono ?_
    rintro e w2 ⟨rfl, rfl⟩
    go_wp2_with fail
    exact ⟨rfl, Or.inr ⟨HF.out, rfl⟩, below_drewN ((Below.refl _ _).alloc (Nat.le_refl _) _) _⟩

end Go.Proofs.YthkbeaffkcfgiabGreatDoor
