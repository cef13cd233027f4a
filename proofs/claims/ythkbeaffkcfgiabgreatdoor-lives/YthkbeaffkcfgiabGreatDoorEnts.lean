import Derived.Test.YthkbeaffkcfgiabGreatDoorMap
namespace Go.Proofs.YthkbeaffkcfgiabGreatDoor

/-- Who lives, by places, rising. -/
def entsOf (bg : Nat → Nat) (tk : Nat → Bool) : List (Int × Int) := ((List.range 20).filter tk).map fun i : Nat => ((i : Int) + 1, (bg i : Int))

theorem range_split : ∀ i : Fin 20, List.range 20 = List.range i.val ++ i.val :: List.range' (i.val + 1) (19 - i.val) := by decide

theorem upd_same {α : Type} (f : Nat → α) (i : Nat) (v : α) : upd f i v i = v := by simp [upd]
theorem upd_ne {α : Type} (f : Nat → α) (i : Nat) (v : α) {j : Nat} (h : j ≠ i) : upd f i v j = f j := by simp [upd, h]

/-- Those ahead of place i, and those behind it. -/
def entsA (bg : Nat → Nat) (tk : Nat → Bool) (i : Nat) : List (Int × Int) := ((List.range i).filter tk).map fun i : Nat => ((i : Int) + 1, (bg i : Int))
def entsB (bg : Nat → Nat) (tk : Nat → Bool) (i : Nat) : List (Int × Int) := ((List.range' (i + 1) (19 - i)).filter tk).map fun i : Nat => ((i : Int) + 1, (bg i : Int))

theorem ents_split (bg : Nat → Nat) (tk : Nat → Bool) (i : Nat) (hi : i < 20) : entsOf bg tk = entsA bg tk i ++ (if tk i then [((i : Int) + 1, (bg i : Int))] else []) ++ entsB bg tk i := by
  unfold entsOf entsA entsB
  rw [range_split ⟨i, hi⟩, List.filter_append, List.filter_cons]
  cases h : tk i <;> simp

theorem entsA_upd (bg bg' : Nat → Nat) (tk tk' : Nat → Bool) (i : Nat) (h1 : ∀ j, j ≠ i → bg' j = bg j) (h2 : ∀ j, j ≠ i → tk' j = tk j) : entsA bg' tk' i = entsA bg tk i := by
  unfold entsA
  have e : (List.range i).filter tk' = (List.range i).filter tk := List.filter_congr fun x hx => h2 x (by have := List.mem_range.1 hx; omega)
  rw [e]
  refine List.map_congr_left fun x hx => ?_
  rw [h1 x (by have := List.mem_range.1 (List.mem_filter.1 hx).1; omega)]
theorem entsB_upd (bg bg' : Nat → Nat) (tk tk' : Nat → Bool) (i : Nat) (h1 : ∀ j, j ≠ i → bg' j = bg j) (h2 : ∀ j, j ≠ i → tk' j = tk j) : entsB bg' tk' i = entsB bg tk i := by
  unfold entsB
  have e : (List.range' (i + 1) (19 - i)).filter tk' = (List.range' (i + 1) (19 - i)).filter tk := List.filter_congr fun x hx => h2 x (by have := List.mem_range'_1.1 hx; omega)
  rw [e]
  refine List.map_congr_left fun x hx => ?_
  rw [h1 x (by have := List.mem_range'_1.1 (List.mem_filter.1 hx).1; omega)]

theorem entsA_lt (bg : Nat → Nat) (tk : Nat → Bool) (i : Nat) : ∀ z ∈ entsA bg tk i, z.1 < (i : Int) + 1 := by
  intro z hz
  obtain ⟨x, hx, rfl⟩ := List.mem_map.1 hz
  have := List.mem_range.1 (List.mem_filter.1 hx).1
  show (x : Int) + 1 < _; omega
theorem entsB_gt (bg : Nat → Nat) (tk : Nat → Bool) (i : Nat) : ∀ z ∈ entsB bg tk i, (i : Int) + 1 < z.1 := by
  intro z hz
  obtain ⟨x, hx, rfl⟩ := List.mem_map.1 hz
  have := List.mem_range'_1.1 (List.mem_filter.1 hx).1
  show _ < (x : Int) + 1; omega

theorem takeWhile_split {α : Type} (P : α → Bool) (a b : List α) (ha : ∀ z ∈ a, P z = true) (hb : ∀ z, b.head? = some z → P z = false) : (a ++ b).takeWhile P = a := by
  rw [List.takeWhile_append_of_pos ha]
  cases b with
  | nil => simp
  | cons x r => rw [List.takeWhile_cons_of_neg (by simp [hb x rfl])]; simp

theorem ahead_ents (bg : Nat → Nat) (tk : Nat → Bool) (i : Nat) (hi : i < 20) : ahead (entsOf bg tk) ((i : Int) + 1) = (entsA bg tk i).length := by
  unfold ahead
  rw [ents_split bg tk i hi, List.append_assoc, takeWhile_split]
  · intro z hz; simpa using entsA_lt bg tk i z hz
  · intro z hz
    have hm : z ∈ (if tk i then [((i : Int) + 1, (bg i : Int))] else []) ++ entsB bg tk i := List.mem_of_mem_head? hz
    rcases List.mem_append.1 hm with h | h
    · split at h
      · simp at h; rw [h]; simp
      · cases h
    · have := entsB_gt bg tk i z h
      simp; omega

theorem ents_len (bg : Nat → Nat) (tk : Nat → Bool) : (entsOf bg tk).length ≤ 20 := by
  unfold entsOf
  rw [List.length_map]
  exact Nat.le_trans (List.length_filter_le _ _) (by rw [List.length_range]; exact Nat.le_refl _)

theorem ents_sort (bg : Nat → Nat) (tk : Nat → Bool) : (entsOf bg tk).Pairwise fun a b => a.1 < b.1 := by
  unfold entsOf
  rw [List.pairwise_map]
  refine List.Pairwise.filter _ ?_
  refine List.pairwise_lt_range.imp fun {a b} h => ?_
  show (a : Int) + 1 < (b : Int) + 1; omega

theorem ents_spawn (bg : Nat → Nat) (tk : Nat → Bool) (i : Nat) (hi : i < 20) (ht : tk i = false) :
    entsOf (upd bg i (bg i + 1)) (upd tk i true) = setIn (entsOf bg tk) (ahead (entsOf bg tk) ((i : Int) + 1)) [((i : Int) + 1, (bg i : Int) + 1)] := by
  rw [ahead_ents bg tk i hi, ents_split (upd bg i (bg i + 1)) (upd tk i true) i hi, ents_split bg tk i hi, entsA_upd bg _ tk _ i (fun j h => upd_ne _ _ _ h) (fun j h => upd_ne _ _ _ h), entsB_upd bg _ tk _ i (fun j h => upd_ne _ _ _ h) (fun j h => upd_ne _ _ _ h), upd_same, upd_same, ht]
  simp [setIn]

theorem ents_despawn (bg : Nat → Nat) (tk : Nat → Bool) (i : Nat) (hi : i < 20) (ht : tk i = true) :
    ahead (entsOf bg tk) ((i : Int) + 1) < (entsOf bg tk).length ∧ entsOf bg (upd tk i false) = cutOut (entsOf bg tk) (ahead (entsOf bg tk) ((i : Int) + 1)) 1 := by
  rw [ahead_ents bg tk i hi, ents_split bg (upd tk i false) i hi, ents_split bg tk i hi, entsA_upd bg bg tk _ i (fun _ _ => rfl) (fun j h => upd_ne _ _ _ h), entsB_upd bg bg tk _ i (fun _ _ => rfl) (fun j h => upd_ne _ _ _ h), upd_same, ht]
  constructor
  · simp
  · simp [cutOut]

end Go.Proofs.YthkbeaffkcfgiabGreatDoor
