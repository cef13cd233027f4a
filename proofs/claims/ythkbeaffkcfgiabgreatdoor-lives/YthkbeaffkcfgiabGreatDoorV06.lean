import Derived.Lib.SplitLaws
import Derived.Lib.Split
import Derived.Lib.IndexBytes
import Derived.Lib.CutLaws
import Derived.Deep.DeepCutAuto
import Derived.Test.YthkbeaffkcfgiabGreatDoorProg
import Derived.Test.YthkbeaffkcfgiabGreatDoorV05
import Derived.Test.YthkbeaffkcfgiabGreatDoorV02
set_option linter.unusedSimpArgs false
set_option linter.unusedVariables false
namespace Go.Proofs.YthkbeaffkcfgiabGreatDoor

/-- A text cut at a byte. -/
def cutL (b : UInt8) : List UInt8 → List (List UInt8)
  | [] => [[]]
  | c :: r => if c = b then [] :: cutL b r else
    match cutL b r with
    | p :: ps => (c :: p) :: ps
    | [] => [[c]]

theorem cutL_ne (b : UInt8) : ∀ s, cutL b s ≠ []
  | [] => by simp [cutL]
  | c :: r => by
    unfold cutL
    split
    · simp
    · split <;> simp

theorem cutL_length (b : UInt8) (s : List UInt8) : 1 ≤ (cutL b s).length := by
  have := cutL_ne b s
  cases h : cutL b s with
  | nil => exact absurd h this
  | cons _ _ => simp

theorem cutL_miss (b : UInt8) : ∀ s, b ∉ s → cutL b s = [s]
  | [], _ => rfl
  | c :: r, h => by
    simp only [List.mem_cons, not_or] at h
    rw [cutL, if_neg (fun e => h.1 e.symm), cutL_miss b r h.2]

theorem cutL_hit (b : UInt8) : ∀ (a r : List UInt8), b ∉ a → cutL b (a ++ b :: r) = a :: cutL b r
  | [], r, _ => by simp [cutL]
  | c :: a, r, h => by
    simp only [List.mem_cons, not_or] at h
    rw [List.cons_append, cutL, if_neg (fun e => h.1 e.symm), cutL_hit b a r h.2]

theorem cutL_snoc (b : UInt8) : ∀ s, cutL b (s ++ [b]) = cutL b s ++ [[]]
  | [] => by simp [cutL]
  | c :: s => by
    rw [List.cons_append, cutL, cutL, cutL_snoc b s]
    split
    · simp
    · cases h : cutL b s with
      | nil => exact absurd h (cutL_ne b s)
      | cons p ps => simp

theorem split_at (b : UInt8) (s : List UInt8) (h : b ∈ s) : ∃ a r, s = a ++ b :: r ∧ b ∉ a := by
  induction s with
  | nil => simp at h
  | cons c s ih =>
    by_cases e : c = b
    · exact ⟨[], s, by simp [e], by simp⟩
    · obtain ⟨a, r, rfl, hn⟩ := ih (by simpa [Ne.symm e] using h)
      exact ⟨c :: a, r, by simp, by simp [Ne.symm e, hn]⟩

theorem index_not (b : UInt8) (s : List UInt8) (h : b ∉ s) : Lib.index s [b] = -1 := by
  rw [Lib.index_one]
  have := Lib.indexByte_ge s b
  by_cases e : Lib.indexByte s b = -1
  · exact e
  · obtain ⟨o, ho⟩ : ∃ o : Nat, Lib.indexByte s b = o := ⟨(Lib.indexByte s b).toNat, by omega⟩
    have := (Lib.indexByte_some ho).1
    exact absurd (List.mem_of_getElem? this) h

theorem index_at (b : UInt8) (a r : List UInt8) (h : b ∉ a) : Lib.index (a ++ b :: r) [b] = a.length := by
  rw [Lib.index_one]
  have hge := Lib.indexByte_ge (a ++ b :: r) b
  by_cases e : Lib.indexByte (a ++ b :: r) b = -1
  · exact absurd (by simp) (Lib.indexByte_none e a.length)
  · obtain ⟨o, ho⟩ : ∃ o : Nat, Lib.indexByte (a ++ b :: r) b = o := ⟨(Lib.indexByte (a ++ b :: r) b).toNat, by omega⟩
    obtain ⟨h1, h2⟩ := Lib.indexByte_some ho
    rw [ho]
    have : ¬ o < a.length := fun hl => by
      rw [List.getElem?_append_left hl] at h1
      exact h (List.mem_of_getElem? h1)
    have : ¬ a.length < o := fun hl => h2 a.length hl (by simp)
    congr 1; omega

theorem splitK_cut (b : UInt8) : ∀ (k : Nat) (s : List UInt8), s.count b ≤ k → Lib.splitK [b] 0 k s = cutL b s
  | 0, s, h => by
    have : b ∉ s := fun hm => by have := List.count_pos_iff.2 hm; omega
    rw [cutL_miss b s this]; rfl
  | k + 1, s, h => by
    unfold Lib.splitK
    by_cases hm : b ∈ s
    · obtain ⟨a, r, rfl, hn⟩ := split_at b s hm
      rw [index_at b a r hn, cutL_hit b a r hn]
      have hc : ¬ ((a.length : Int) == -1) = true := by simp
      rw [if_neg hc]
      have hk : r.count b ≤ k := by
        rw [List.count_append, List.count_cons_self] at h; omega
      have ih := splitK_cut b k r hk
      simp only [Int.toNat_natCast, Nat.add_zero, List.length_singleton]
      rw [List.take_left, show a.length + 1 = (a ++ [b]).length by simp, show a ++ b :: r = (a ++ [b]) ++ r by simp, List.drop_left, ih]
    · rw [index_not b s hm, cutL_miss b s hm]; simp

theorem split_cut (b : UInt8) (s : ByteArray) : (Lib.splitB ⟨#[b]⟩ 0 (Lib.countB s ⟨#[b]⟩) s).map (·.data.toList) = cutL b s.data.toList := by
  rw [Lib.splitB_data]
  exact splitK_cut b _ _ (by
    have : Lib.countB s ⟨#[b]⟩ = s.data.toList.count b := Lib.count_one b s.data.toList
    omega)

theorem count_cut (b : UInt8) (s : ByteArray) : Lib.countB s ⟨#[b]⟩ + 1 = (cutL b s.data.toList).length := by
  rw [← split_cut, List.length_map, Lib.splitB_all ⟨#[b]⟩ (Nat.le_refl 1) 0 _ s rfl]

def nameL (s : List UInt8) : Bool := decide (1 ≤ s.length) && decide (s.length ≤ 8) && s.all fun c => decide (97 ≤ c.toNat) && decide (c.toNat ≤ 122)
def kindL (s : List UInt8) : Nat := if s = [105, 110, 116] then 1 else if s = [98, 111, 111, 108] then 2 else if s = [116, 101, 120, 116] then 3 else if s = [114, 101, 102] then 4 else if s = [108, 105, 115, 116] then 5 else 0

theorem kindL_colon (s : List UInt8) (h : (58 : UInt8) ∈ s) : kindL s = 0 := by
  unfold kindL
  have e : ∀ l : List UInt8, (58 : UInt8) ∉ l → s ≠ l := fun l hl e => hl (e ▸ h)
  rw [if_neg (e _ (by decide)), if_neg (e _ (by decide)), if_neg (e _ (by decide)), if_neg (e _ (by decide)), if_neg (e _ (by decide))]

/-- A field's word, as the program reads it. -/
def fieldL (word : List UInt8) : Option (List UInt8 × Nat) :=
  if nameL (Lib.cut word [58]).1 = true ∧ kindL (Lib.cut word [58]).2.1 ≠ 0 then some ((Lib.cut word [58]).1, kindL (Lib.cut word [58]).2.1) else none
/-- A field's word, as the document's answer reads it. -/
def fieldR (word : List UInt8) : Option (List UInt8 × Nat) :=
  match cutL 58 word with
  | [a, b] => if nameL a = true ∧ kindL b ≠ 0 then some (a, kindL b) else none
  | _ => none

theorem fieldL_eq (word : List UInt8) : fieldL word = fieldR word := by
  unfold fieldL fieldR
  by_cases hm : (58 : UInt8) ∈ word
  · obtain ⟨a, r, rfl, hn⟩ := split_at 58 word hm
    have hc : Lib.cut (a ++ 58 :: r) [58] = (a, r, true) := by
      unfold Lib.cut
      rw [index_at 58 a r hn, if_pos (by omega)]
      simp only [Int.toNat_natCast, List.length_singleton]
      rw [List.take_left, show a.length + 1 = (a ++ [58]).length by simp, show a ++ 58 :: r = (a ++ [58]) ++ r by simp, List.drop_left]
    rw [hc, cutL_hit 58 a r hn]
    by_cases h2 : (58 : UInt8) ∈ r
    · obtain ⟨a2, r2, rfl, hn2⟩ := split_at 58 r h2
      rw [cutL_hit 58 a2 r2 hn2, kindL_colon _ (by simp)]
      cases h3 : cutL 58 r2 with
      | nil => exact absurd h3 (cutL_ne _ _)
      | cons p ps => simp
    · rw [cutL_miss 58 r h2]
  · have hc : Lib.cut word [58] = (word, [], false) := by
      unfold Lib.cut
      rw [index_not 58 word hm, if_neg (by decide)]
    rw [hc, cutL_miss 58 word hm]
    have : kindL [] = 0 := by decide
    simp [this]

/-- Fields, word by word. -/
def fieldsL (acc : List (List UInt8 × Nat)) : List (List UInt8) → Option (List (List UInt8 × Nat))
  | [] => some acc
  | w :: ws =>
    match fieldR w with
    | none => none
    | some f => if f.1 ∈ acc.map Prod.fst then none else fieldsL (acc ++ [f]) ws

/-- A component's line, cut at its blanks. -/
def compP (nm : List UInt8) (ws : List (List UInt8)) : Option (List UInt8 × List (List UInt8 × Nat)) :=
  if ws.length ≤ 4 ∧ nameL nm = true then
    match fieldsL [] ws with
    | none => none
    | some zs => if nm = [101] ∧ zs = [] then none else some (nm, zs)
  else none
/-- A component's line. -/
def compL (line : List UInt8) : Option (List UInt8 × List (List UInt8 × Nat)) :=
  match cutL 32 line with
  | [] => none
  | nm :: ws => compP nm ws

theorem compP_none {nm : List UInt8} {ws : List (List UInt8)} (h : fieldsL [] ws = none) : compP nm ws = none := by
  unfold compP; rw [h]; simp
theorem compP_e {nm : List UInt8} (h : nm = [101]) : compP nm [] = none := by
  unfold compP; simp [fieldsL, h]
theorem compP_some {nm : List UInt8} {ws : List (List UInt8)} {zs : List (List UInt8 × Nat)} (h1 : ws.length ≤ 4) (h2 : nameL nm = true) (h : fieldsL [] ws = some zs) (h3 : ¬ (nm = [101] ∧ zs = [])) : compP nm ws = some (nm, zs) := by
  unfold compP; rw [if_pos ⟨h1, h2⟩, h]; simp only; rw [if_neg h3]

theorem cut_count (b : UInt8) : ∀ s, (cutL b s).length ≤ s.length + 1
  | [] => by simp [cutL]
  | c :: s => by
    have ih := cut_count b s
    unfold cutL
    split
    · simp; omega
    · cases h : cutL b s with
      | nil => simp
      | cons p ps => rw [h] at ih; simp at ih ⊢; omega

/-- Components, line by line. -/
def compsL (acc : List (List UInt8 × List (List UInt8 × Nat))) : List (List UInt8) → Option (List (List UInt8 × List (List UInt8 × Nat)))
  | [] => some acc
  | l :: ls =>
    match compL l with
    | none => none
    | some c => if c.1 ∈ acc.map Prod.fst then none else compsL (acc ++ [c]) ls

/-- A schema's text, as the document's answer reads it. -/
def schemaL (text : List UInt8) : Option (List (List UInt8 × List (List UInt8 × Nat))) :=
  if text.length ≤ 400 ∧ (cutL 10 text).getLast? = some [] ∧ 2 ≤ (cutL 10 text).length ∧ (cutL 10 text).length ≤ 7 then compsL [] ((cutL 10 text).dropLast) else none

/-- How a run of words goes on behind a prefix. -/
theorem fieldsL_append : ∀ (a b : List (List UInt8)) (acc : List (List UInt8 × Nat)), fieldsL acc (a ++ b) = (fieldsL acc a).bind fun z => fieldsL z b
  | [], b, acc => rfl
  | w :: a, b, acc => by
    rw [List.cons_append, fieldsL, fieldsL]
    cases fieldR w with
    | none => rfl
    | some f =>
      simp only
      split
      · rfl
      · exact fieldsL_append a b _

theorem compsL_append : ∀ (a b : List (List UInt8)) (acc : List (List UInt8 × List (List UInt8 × Nat))), compsL acc (a ++ b) = (compsL acc a).bind fun z => compsL z b
  | [], b, acc => rfl
  | w :: a, b, acc => by
    rw [List.cons_append, compsL, compsL]
    cases compL w with
    | none => rfl
    | some f =>
      simp only
      split
      · rfl
      · exact compsL_append a b _

/-- The program's way into a text: an ending line feed, the lines ahead of it. -/
theorem schemaL_body (body : List UInt8) : schemaL (body ++ [10]) = if (body ++ [10]).length ≤ 400 ∧ (cutL 10 body).length ≤ 6 then compsL [] (cutL 10 body) else none := by
  unfold schemaL
  rw [cutL_snoc]
  have h1 := cutL_length 10 body
  simp only [List.getLast?_append, List.getLast?_singleton, List.length_append, List.length_singleton, List.dropLast_concat]
  by_cases h : (body.length + 1 ≤ 400 ∧ (cutL 10 body).length ≤ 6)
  · rw [if_pos h, if_pos ⟨h.1, by simp, by omega, by omega⟩]
  · rw [if_neg h, if_neg (fun hh => h ⟨hh.1, by omega⟩)]

theorem cutL_last (b : UInt8) : ∀ s, (cutL b s).getLast? = some [] → s = [] ∨ ∃ t, s = t ++ [b]
  | [], _ => Or.inl rfl
  | c :: s, h => by
    right
    unfold cutL at h
    by_cases e : c = b
    · rw [if_pos e] at h
      rw [List.getLast?_cons_of_ne_nil (cutL_ne b s)] at h
      rcases cutL_last b s h with rfl | ⟨t, rfl⟩
      · exact ⟨[], by simp [e]⟩
      · exact ⟨c :: t, by simp⟩
    · rw [if_neg e] at h
      cases hc : cutL b s with
      | nil => exact absurd hc (cutL_ne b s)
      | cons p ps =>
        rw [hc] at h
        simp only at h
        cases ps with
        | nil => simp at h
        | cons q qs =>
          have h2 : (cutL b s).getLast? = some [] := by
            rw [hc]; rw [List.getLast?_cons_cons] at h ⊢; exact h
          rcases cutL_last b s h2 with rfl | ⟨t, rfl⟩
          · simp [cutL] at hc
          · exact ⟨c :: t, by simp⟩

theorem schemaL_noEnd (text : List UInt8) (h : ∀ body, text ≠ body ++ [10]) : schemaL text = none := by
  unfold schemaL
  rw [if_neg]
  rintro ⟨_, h1, h2, _⟩
  rcases cutL_last 10 text h1 with rfl | ⟨t, ht⟩
  · simp [cutL] at h2
  · exact h t ht

end Go.Proofs.YthkbeaffkcfgiabGreatDoor

namespace Go.Proofs.YthkbeaffkcfgiabGreatDoor
open Go.RowKit

/-- What the reader leaves by. -/
def wrong : List PanicEntry := [{ v := .iface 197 (.agg #[]), recovered := false }]

theorem need_no (x : Bool) (w : World) (hx : x = false) : Calls Tryz.prog 193 #[.bool x] w fun e w' => e = .panicked wrong ∧ w = w' := by
  subst hx
  go_enter Tryz.func193, Tryz.ntmps193
  go_wp2
  exact ⟨rfl, rfl, rfl⟩

theorem nameL_ok (s : ByteArray) : nameL s.data.toList = true ↔ NameOk s := by
  unfold nameL NameOk
  simp only [Bool.and_eq_true, decide_eq_true_eq, List.all_eq_true, Array.length_toList, ByteArray.size_data, and_assoc]
  constructor
  · rintro ⟨h1, h2, h3⟩
    exact ⟨h1, h2, fun i hi => h3 s[i] (Array.mem_toList_iff.2 (Array.getElem_mem hi))⟩
  · rintro ⟨h1, h2, h3⟩
    refine ⟨h1, h2, fun c hc => ?_⟩
    obtain ⟨i, hi, rfl⟩ := List.getElem_of_mem hc
    exact h3 i (by simpa using hi)

set_option maxHeartbeats 800000 in
theorem readName_no (s : ByteArray) (w : World) (hs : s.size ≤ 1000000000) (hn : ¬ NameOk s) : Calls Tryz.prog 246 #[.string s] w fun e w' => e = .panicked wrong ∧ w = w' := by
  by_cases h12 : 1 ≤ s.size ∧ s.size ≤ 8
  · obtain ⟨h1, h2⟩ := h12
    have HN : Hid (¬ ∀ (i : Nat) (h : i < s.size), 97 ≤ s[i].toNat ∧ s[i].toNat ≤ 122) := fun h => hn ⟨h1, h2, h⟩
    clear hn
    go_enter Tryz.func246, Tryz.ntmps246
    go_wp2_with (go_at_call 193; refine (need_of _ _ ?_).mono ?_; (first | rfl | (simp; omega)); rintro e w' ⟨rfl, rfl⟩)
    go_loop [15] (fun t => ∃ k : Nat, k ≤ s.size ∧ t = .int .i64 k ∧ Hid (∀ (i : Nat) (h : i < s.size), i < k → 97 ≤ s[i].toNat ∧ s[i].toNat ≤ 122)) (fun t => s.size - (intOf t).toNat)
    case atStart => exact ⟨0, by omega, rfl, fun i _ h => by omega⟩
    case round =>
      obtain ⟨k, hk, rfl, hall⟩ := hrel
      by_cases hlt : k < s.size
      · by_cases hc : 97 ≤ s[k].toNat ∧ s[k].toNat ≤ 122
        · have hc1 : (97 : Int) ≤ (s[k].toNat : Int) := by omega
          have hc2 : (s[k].toNat : Int) ≤ 122 := by omega
          have HCC : Hid (97 ≤ s[k].toNat ∧ s[k].toNat ≤ 122) := hc
          clear hc
          go_wp2_with (go_at_call 193; refine (need_of _ _ ?_).mono ?_; (first | rfl | (simp; omega)); rintro e w' ⟨rfl, rfl⟩)
          go_round
          case rel => exact ⟨k + 1, by omega, by go_num, fun i h hi => by
            by_cases e : i = k
            · subst e; exact HCC.out
            · exact hall.out i h (by omega)⟩
          case measure => simp [intOf]; omega
        · by_cases hc1 : 97 ≤ s[k].toNat
          · have hd1 : (97 : Int) ≤ (s[k].toNat : Int) := by omega
            have hd2 : ¬ (s[k].toNat : Int) ≤ 122 := by omega
            clear hc hc1
            go_wp2_with (go_at_call 193; refine (need_no _ _ ?_).mono ?_; (first | rfl | (simp; omega)); rintro e w' ⟨rfl, rfl⟩)
            exact ⟨rfl, rfl, rfl⟩
          · have hd1 : ¬ (97 : Int) ≤ (s[k].toNat : Int) := by omega
            clear hc hc1
            go_wp2_with (go_at_call 193; refine (need_no _ _ ?_).mono ?_; (first | rfl | (simp; omega)); rintro e w' ⟨rfl, rfl⟩)
            exact ⟨rfl, rfl, rfl⟩
      · exact absurd (fun i h => hall.out i h (by omega)) HN.out
  · clear hn
    by_cases h1 : 1 ≤ s.size
    · have h2 : ¬ (s.size : Int) ≤ 8 := by omega
      have h1' : (1 : Int) ≤ (s.size : Int) := by omega
      clear h12
      go_enter Tryz.func246, Tryz.ntmps246
      go_wp2_with (go_at_call 193; refine (need_no _ _ ?_).mono ?_; (first | rfl | (simp; omega)); rintro e w' ⟨rfl, rfl⟩)
      exact ⟨rfl, rfl, rfl⟩
    · have h1' : ¬ (1 : Int) ≤ (s.size : Int) := by omega
      clear h12
      go_enter Tryz.func246, Tryz.ntmps246
      go_wp2_with (go_at_call 193; refine (need_no _ _ ?_).mono ?_; (first | rfl | (simp; omega)); rintro e w' ⟨rfl, rfl⟩)
      exact ⟨rfl, rfl, rfl⟩

end Go.Proofs.YthkbeaffkcfgiabGreatDoor
