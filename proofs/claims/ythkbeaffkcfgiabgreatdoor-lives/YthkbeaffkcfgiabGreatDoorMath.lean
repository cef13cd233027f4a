import Derived.Test.YthkbeaffkcfgiabGreatDoorSpawn
namespace Go.Proofs.YthkbeaffkcfgiabGreatDoor

def sumTo (f : Nat → Nat) : Nat → Nat
  | 0 => 0
  | n + 1 => sumTo f n + f n

theorem sumTo_congr (f g : Nat → Nat) : ∀ n, (∀ i, i < n → f i = g i) → sumTo f n = sumTo g n
  | 0, _ => rfl
  | n + 1, h => by rw [sumTo, sumTo, sumTo_congr f g n (fun i hi => h i (by omega)), h n (by omega)]

theorem sumTo_upd (f : Nat → Nat) (i v : Nat) : ∀ n, i < n → sumTo (upd f i v) n + f i = sumTo f n + v
  | 0, h => by omega
  | n + 1, h => by
    rw [sumTo, sumTo]
    by_cases e : i = n
    · subst e
      have : sumTo (upd f i v) i = sumTo f i := sumTo_congr _ _ _ fun j hj => by simp [upd]; omega
      rw [this]; simp [upd]; omega
    · have := sumTo_upd f i v n (by omega)
      have h2 : upd f i v n = f n := by simp [upd]; omega
      rw [h2]; omega

theorem sumTo_le (f g : Nat → Nat) : ∀ n, (∀ i, i < n → f i ≤ g i) → sumTo f n ≤ sumTo g n
  | 0, _ => Nat.le_refl _
  | n + 1, h => by rw [sumTo, sumTo]; have := sumTo_le f g n (fun i hi => h i (by omega)); have := h n (by omega); omega

theorem sumTo_const (c : Nat) : ∀ n, sumTo (fun _ => c) n = n * c
  | 0 => by simp [sumTo]
  | n + 1 => by rw [sumTo, sumTo_const c n, Nat.succ_mul]

theorem sumTo_add (f g : Nat → Nat) : ∀ n, sumTo (fun i => f i + g i) n = sumTo f n + sumTo g n
  | 0 => rfl
  | n + 1 => by rw [sumTo, sumTo, sumTo, sumTo_add f g n]; omega

def one (tk : Nat → Bool) (i : Nat) : Nat := if tk i = true then 1 else 0

structure Inv (bg : Nat → Nat) (tk : Nat → Bool) (ever live : List (Nat × Nat)) : Prop where
  le3 : ∀ i, i < 20 → bg i ≤ 3
  pos : ∀ i, i < 20 → tk i = true → 1 ≤ bg i
  liveOk : ∀ z ∈ live, z.1 < 20 ∧ tk z.1 = true ∧ z.2 = bg z.1
  nodup : (live.map Prod.fst).Nodup
  everOk : ∀ z ∈ ever, z.1 < 20 ∧ z.2 ≤ bg z.1
  everLen : ever.length = sumTo bg 20
  liveLen : live.length = sumTo (one tk) 20

theorem Inv.start : Inv (fun _ => 0) (fun _ => false) [] [] := {
  le3 := by simp
  pos := by simp
  liveOk := by simp
  nodup := by simp
  everOk := by simp
  everLen := by rw [sumTo_const]; rfl
  liveLen := by
    have : sumTo (one fun _ => false) 20 = sumTo (fun _ => 0) 20 := sumTo_congr _ _ _ fun i _ => by simp [one]
    rw [this, sumTo_const]; rfl }

theorem Inv.ever_le {bg : Nat → Nat} {tk : Nat → Bool} {ever live : List (Nat × Nat)} (h : Inv bg tk ever live) : ever.length ≤ 60 := by
  rw [h.everLen]
  have := sumTo_le bg (fun _ => 3) 20 h.le3
  rw [sumTo_const] at this
  omega

theorem Inv.live_le {bg : Nat → Nat} {tk : Nat → Bool} {ever live : List (Nat × Nat)} (h : Inv bg tk ever live) : live.length ≤ ever.length := by
  rw [h.everLen, h.liveLen]
  refine sumTo_le _ _ _ fun i hi => ?_
  by_cases e : tk i = true
  · simp [one, e]; exact h.pos i hi e
  · simp [one, e]

theorem Inv.full {bg : Nat → Nat} {tk : Nat → Bool} {ever live : List (Nat × Nat)} (h : Inv bg tk ever live) (hf : ∀ j, j < 20 → shutAt bg tk j) : 60 ≤ ever.length + 2 * live.length := by
  have h1 : sumTo (fun _ => 3) 20 ≤ sumTo (fun i => bg i + (one tk i + one tk i)) 20 := sumTo_le _ _ _ fun i hi => by
    rcases hf i hi with e | e
    · have := h.pos i hi e; simp [one, e]; omega
    · omega
  rw [sumTo_const, sumTo_add, sumTo_add, ← h.everLen, ← h.liveLen] at h1
  omega

theorem Inv.full_nil {bg : Nat → Nat} {tk : Nat → Bool} {ever live : List (Nat × Nat)} (h : Inv bg tk ever live) (hf : ∀ j, j < 20 → shutAt bg tk j) (hl : live.length = 0) : ever.length = 60 := by
  have := h.full hf
  have := h.ever_le
  omega

theorem Inv.fresh {bg : Nat → Nat} {tk : Nat → Bool} {ever live : List (Nat × Nat)} (h : Inv bg tk ever live) (i : Nat) : ∀ z ∈ ever, ¬ (z.1 = i ∧ z.2 = bg i + 1) := by
  intro z hz ⟨e1, e2⟩
  have := (h.everOk z hz).2
  rw [e1] at this
  omega

theorem Inv.spawn {bg : Nat → Nat} {tk : Nat → Bool} {ever live : List (Nat × Nat)} (h : Inv bg tk ever live) (i : Nat) (hi : i < 20) (ht : tk i = false) (hg : bg i < 3) :
    Inv (upd bg i (bg i + 1)) (upd tk i true) (ever ++ [(i, bg i + 1)]) (live ++ [(i, bg i + 1)]) := {
  le3 := fun j hj => by
    by_cases e : j = i
    · subst e; simp [upd]; omega
    · simp [upd, e]; exact h.le3 j hj
  pos := fun j hj h1 => by
    by_cases e : j = i
    · subst e; simp [upd]
    · simp [upd, e] at h1 ⊢; exact h.pos j hj h1
  liveOk := fun z hz => by
    rcases List.mem_append.1 hz with hz | hz
    · obtain ⟨a, b, c⟩ := h.liveOk z hz
      have e : z.1 ≠ i := fun e => by rw [e, ht] at b; cases b
      simp [upd, e]; exact ⟨a, b, c⟩
    · simp at hz; subst hz; simp [upd]; exact hi
  nodup := by
    rw [List.map_append, List.nodup_append]
    refine ⟨h.nodup, by simp, fun a ha b hb => ?_⟩
    simp only [List.map_cons, List.map_nil, List.mem_singleton] at hb
    subst hb
    obtain ⟨z, hz, rfl⟩ := List.mem_map.1 ha
    intro e
    have := (h.liveOk z hz).2.1
    rw [e, ht] at this; cases this
  everOk := fun z hz => by
    rcases List.mem_append.1 hz with hz | hz
    · obtain ⟨a, b⟩ := h.everOk z hz
      refine ⟨a, ?_⟩
      by_cases e : z.1 = i
      · simp [upd, e]; rw [e] at b; omega
      · simp [upd, e]; exact b
    · simp at hz; subst hz; simp [upd]; exact hi
  everLen := by
    have := sumTo_upd bg i (bg i + 1) 20 hi
    simp; rw [h.everLen]; omega
  liveLen := by
    have e : sumTo (one (upd tk i true)) 20 = sumTo (upd (one tk) i 1) 20 := sumTo_congr _ _ _ fun j _ => by
      by_cases e : j = i
      · subst e; simp [upd, one]
      · simp [upd, one, e]
    have := sumTo_upd (one tk) i 1 20 hi
    have h0 : one tk i = 0 := by simp [one, ht]
    simp; rw [h.liveLen, e]; omega }

theorem Inv.despawn {bg : Nat → Nat} {tk : Nat → Bool} {ever a b : List (Nat × Nat)} {z : Nat × Nat} (h : Inv bg tk ever (a ++ z :: b)) : Inv bg (upd tk z.1 false) ever (a ++ b) := {
  le3 := h.le3
  pos := fun j hj h1 => by
    by_cases e : j = z.1
    · subst e; simp [upd] at h1
    · simp [upd, e] at h1; exact h.pos j hj h1
  liveOk := fun y hy => by
    have hm : y ∈ a ++ z :: b := by simp at hy ⊢; rcases hy with hy | hy; exact Or.inl hy; exact Or.inr (Or.inr hy)
    obtain ⟨p, q, r⟩ := h.liveOk y hm
    have hne : y.1 ≠ z.1 := by
      intro e
      have hn := h.nodup
      rw [List.map_append, List.map_cons, List.nodup_append, List.nodup_cons] at hn
      rcases List.mem_append.1 hy with hy | hy
      · exact hn.2.2 y.1 (List.mem_map_of_mem hy) z.1 (by simp) e
      · exact hn.2.1.1 (by rw [← e]; exact List.mem_map_of_mem hy)
    simp [upd, hne]; exact ⟨p, q, r⟩
  nodup := by
    have hn := h.nodup
    rw [List.map_append, List.map_cons, List.nodup_append, List.nodup_cons] at hn
    rw [List.map_append, List.nodup_append]
    exact ⟨hn.1, hn.2.1.2, fun x hx y hy => hn.2.2 x hx y (by simp at hy ⊢; exact Or.inr hy)⟩
  everOk := h.everOk
  everLen := h.everLen
  liveLen := by
    have hz := h.liveOk z (by simp)
    have e : sumTo (one (upd tk z.1 false)) 20 = sumTo (upd (one tk) z.1 0) 20 := sumTo_congr _ _ _ fun j _ => by
      by_cases e : j = z.1
      · subst e; simp [upd, one]
      · simp [upd, one, e]
    have h1 := sumTo_upd (one tk) z.1 0 20 hz.1
    have h0 : one tk z.1 = 1 := by simp [one, hz.2.1]
    have hl := h.liveLen
    simp at hl ⊢; rw [e]; omega }

theorem open_or (bg : Nat → Nat) (tk : Nat → Bool) : ∀ n, (∀ j, j < n → shutAt bg tk j) ∨ ∃ i, i < n ∧ tk i = false ∧ bg i < 3 ∧ ∀ j, j < i → shutAt bg tk j
  | 0 => Or.inl fun j h => by omega
  | n + 1 => by
    rcases open_or bg tk n with h | ⟨i, hi, r⟩
    · by_cases e : shutAt bg tk n
      · refine Or.inl fun j hj => ?_
        by_cases ej : j = n
        · subst ej; exact e
        · exact h j (by omega)
      · simp only [shutAt, not_or, Bool.not_eq_true, Nat.not_le] at e
        exact Or.inr ⟨n, by omega, e.1, e.2, h⟩
    · exact Or.inr ⟨i, by omega, r⟩

end Go.Proofs.YthkbeaffkcfgiabGreatDoor
