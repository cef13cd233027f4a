import Derived.Lib.AtoiAll
import Derived.Lib.AppendIntMem
import Derived.Lib.AtoiErrMem
import Derived.Laws.AppendOwnNone
import Derived.Test.YthkbeaffkcfgiabGreatDoorK07
set_option linter.unusedSimpArgs false
set_option linter.unusedVariables false
namespace Go.Proofs.YthkbeaffkcfgiabGreatDoor

/-- The digits of base 16. -/
def hexL : List UInt8 := [48, 49, 50, 51, 52, 53, 54, 55, 56, 57, 97, 98, 99, 100, 101, 102]
def digitL (l : List UInt8) : Option (Nat × List UInt8) :=
  match nextL l with
  | none => none
  | some (b, r) => if 0 ≤ Lib.indexByte hexL b then some ((Lib.indexByte hexL b).toNat, r) else none
def plainL (b : UInt8) : Bool := decide (33 ≤ b.toNat) && decide (b.toNat ≤ 126) && !(b.toNat == 34) && !(b.toNat == 92)
def quotedByteL (l : List UInt8) : Option (UInt8 × List UInt8) :=
  if Lib.hasPrefix l [92, 120] then
    match digitL (Lib.trimPrefix l [92, 120]) with
    | none => none
    | some (h, r) => match digitL r with
      | none => none
      | some (o, r2) => if plainL (UInt8.ofNat (h * 16 + o)) then none else some (UInt8.ofNat (h * 16 + o), r2)
  else match nextL l with
    | none => none
    | some (b, r) => if plainL b then some (b, r) else none
/-- The bytes of a text, at most n more. -/
def quotedGo : Nat → List UInt8 → List UInt8 → Option (List UInt8 × List UInt8)
  | 0, acc, l => if Lib.hasPrefix l [34] then some (acc, Lib.trimPrefix l [34]) else none
  | n + 1, acc, l => if Lib.hasPrefix l [34] then some (acc, Lib.trimPrefix l [34]) else
      match quotedByteL l with
      | none => none
      | some (b, r) => quotedGo n (acc ++ [b]) r
def quotedL (l : List UInt8) : Option (List UInt8 × List UInt8) := if Lib.hasPrefix l [34] then quotedGo 12 [] (Lib.trimPrefix l [34]) else none

/-- What decimal takes for digits. -/
def decSet : List UInt8 := [45, 48, 49, 50, 51, 52, 53, 54, 55, 56, 57]
def decimalL (l : List UInt8) : Option (Int × List UInt8) :=
  match Lib.atoiAll (l.take (l.length - (Lib.trimLeftS l decSet).length)) with
  | .ok v => if Lib.itoa v = l.take (l.length - (Lib.trimLeftS l decSet).length) then some (v, l.drop (l.length - (Lib.trimLeftS l decSet).length)) else none
  | _ => none
def truthL (l : List UInt8) : Option (Int × List UInt8) :=
  if Lib.hasPrefix l [116] then some (1, Lib.trimPrefix l [116]) else if Lib.hasPrefix l [102] then some (0, Lib.trimPrefix l [102]) else none
def refL (l : List UInt8) : Option (Int × List UInt8) :=
  if Lib.hasPrefix l [45] then some (0, Lib.trimPrefix l [45]) else if Lib.hasPrefix l [64] then
    match decimalL (Lib.trimPrefix l [64]) with
    | none => none
    | some (n, r) => if 0 ≤ n ∧ n < 20 then some (n + 1, r) else none
  else none
/-- The numbers of a list, at most n more. -/
def listGo : Nat → List Int → List UInt8 → Option (List Int × List UInt8)
  | 0, acc, l => if Lib.hasPrefix l [93] then some (acc, Lib.trimPrefix l [93]) else none
  | n + 1, acc, l => if Lib.hasPrefix l [93] then some (acc, Lib.trimPrefix l [93]) else
      if acc ≠ [] ∧ Lib.hasPrefix l [44] = false then none else
        match decimalL (if acc = [] then l else Lib.trimPrefix l [44]) with
        | none => none
        | some (x, r) => listGo n (acc ++ [x]) r
def listL (l : List UInt8) : Option (List Int × List UInt8) := if Lib.hasPrefix l [91] then listGo 4 [] (Lib.trimPrefix l [91]) else none

theorem trim_len (l p : List UInt8) : (Lib.trimPrefix l p).length ≤ l.length := by
  unfold Lib.trimPrefix; split <;> simp
theorem trim_no {l p : List UInt8} (h : Lib.hasPrefix l p = false) : Lib.trimPrefix l p = l := by
  unfold Lib.trimPrefix; rw [h]; simp
theorem nextL_len {l r : List UInt8} {b : UInt8} (h : nextL l = some (b, r)) : r.length ≤ l.length := by
  cases l with
  | nil => cases h
  | cons c t => simp [nextL] at h; rw [← h.2]; simp
theorem digitL_len {l r : List UInt8} {n : Nat} (h : digitL l = some (n, r)) : r.length ≤ l.length ∧ n < 16 := by
  unfold digitL at h
  cases hn : nextL l with
  | none => rw [hn] at h; cases h
  | some x =>
    obtain ⟨b, q⟩ := x
    rw [hn] at h
    simp only at h
    split at h
    · simp only [Option.some.injEq, Prod.mk.injEq] at h
      refine ⟨by rw [← h.2]; exact nextL_len hn, ?_⟩
      rw [← h.1]
      have : ∀ n : Fin 256, (Lib.indexByte hexL (UInt8.ofNat n.val)).toNat < 16 := by decide +kernel
      have h2 := this ⟨b.toNat, b.toNat_lt⟩
      simpa using h2
    · cases h
theorem quotedByteL_len {l r : List UInt8} {b : UInt8} (h : quotedByteL l = some (b, r)) : r.length ≤ l.length := by
  unfold quotedByteL at h
  split at h
  · cases h1 : digitL (Lib.trimPrefix l [92, 120]) with
    | none => rw [h1] at h; cases h
    | some x =>
      obtain ⟨a, r1⟩ := x
      rw [h1] at h
      simp only at h
      cases h2 : digitL r1 with
      | none => rw [h2] at h; cases h
      | some y =>
        obtain ⟨o, r2⟩ := y
        rw [h2] at h
        simp only at h
        split at h
        · cases h
        · simp only [Option.some.injEq, Prod.mk.injEq] at h
          have := (digitL_len h1).1; have := (digitL_len h2).1; have := trim_len l [92, 120]
          rw [← h.2]; omega
  · cases h1 : nextL l with
    | none => rw [h1] at h; cases h
    | some x =>
      obtain ⟨a, r1⟩ := x
      rw [h1] at h
      simp only at h
      split at h
      · simp only [Option.some.injEq, Prod.mk.injEq] at h
        rw [← h.2]; exact nextL_len h1
      · cases h
theorem atoi_bound {l : List UInt8} {v : Int} (h : Lib.atoiAll l = .ok v) : -9223372036854775808 ≤ v ∧ v ≤ 9223372036854775807 := by
  unfold Lib.atoiAll at h
  split at h
  · cases h
  · rename_i c r
    simp only at h
    split at h
    · cases h
    · cases h
    · rename_i u _
      split at h
      · cases h
      · split at h
        · cases h
        · injection h with h
          rw [← h]
          split <;> omega
theorem decimalL_len {l r : List UInt8} {n : Int} (h : decimalL l = some (n, r)) : r.length ≤ l.length ∧ -9223372036854775808 ≤ n ∧ n ≤ 9223372036854775807 := by
  unfold decimalL at h
  split at h
  · rename_i v hv
    split at h
    · simp only [Option.some.injEq, Prod.mk.injEq] at h
      refine ⟨by rw [← h.2]; simp, ?_⟩
      rw [← h.1]
      exact atoi_bound hv
    · cases h
  · cases h

theorem quotedGo_yes (n : Nat) (acc : List UInt8) {r : List UInt8} (h : Lib.hasPrefix r [34] = true) : quotedGo n acc r = some (acc, Lib.trimPrefix r [34]) := by
  cases n with
  | zero => rw [quotedGo, if_pos h]
  | succ n => rw [quotedGo, if_pos h]
theorem quotedGo_end (acc : List UInt8) {r : List UInt8} (h : Lib.hasPrefix r [34] = false) : quotedGo 0 acc r = none := by
  rw [quotedGo, if_neg (by rw [h]; decide)]
theorem quotedGo_none (n : Nat) (acc : List UInt8) {r : List UInt8} (h : Lib.hasPrefix r [34] = false) (hb : quotedByteL r = none) : quotedGo (n + 1) acc r = none := by
  rw [quotedGo, if_neg (by rw [h]; decide), hb]
theorem quotedGo_some (n : Nat) (acc : List UInt8) {r q : List UInt8} {b : UInt8} (h : Lib.hasPrefix r [34] = false) (hb : quotedByteL r = some (b, q)) : quotedGo (n + 1) acc r = quotedGo n (acc ++ [b]) q := by
  rw [quotedGo, if_neg (by rw [h]; decide), hb]
theorem listGo_yes (n : Nat) (acc : List Int) {r : List UInt8} (h : Lib.hasPrefix r [93] = true) : listGo n acc r = some (acc, Lib.trimPrefix r [93]) := by
  cases n with
  | zero => rw [listGo, if_pos h]
  | succ n => rw [listGo, if_pos h]
theorem listGo_end (acc : List Int) {r : List UInt8} (h : Lib.hasPrefix r [93] = false) : listGo 0 acc r = none := by
  rw [listGo, if_neg (by rw [h]; decide)]
theorem listGo_comma (n : Nat) (acc : List Int) {r : List UInt8} (h : Lib.hasPrefix r [93] = false) (ha : acc ≠ []) (hc : Lib.hasPrefix r [44] = false) : listGo (n + 1) acc r = none := by
  rw [listGo, if_neg (by rw [h]; decide), if_pos ⟨ha, hc⟩]
theorem listGo_none (n : Nat) (acc : List Int) {r r2 : List UInt8} (h : Lib.hasPrefix r [93] = false) (hc : acc = [] ∧ r2 = r ∨ acc ≠ [] ∧ Lib.hasPrefix r [44] = true ∧ r2 = Lib.trimPrefix r [44]) (hb : decimalL r2 = none) : listGo (n + 1) acc r = none := by
  rw [listGo, if_neg (by rw [h]; decide)]
  rcases hc with ⟨h1, rfl⟩ | ⟨h1, h2, rfl⟩
  · rw [if_neg (fun x => x.1 h1), if_pos h1, hb]
  · rw [if_neg (fun x => by rw [h2] at x; exact absurd x.2 (by decide)), if_neg h1, hb]
theorem listGo_some (n : Nat) (acc : List Int) {r r2 q : List UInt8} {x : Int} (h : Lib.hasPrefix r [93] = false) (hc : acc = [] ∧ r2 = r ∨ acc ≠ [] ∧ Lib.hasPrefix r [44] = true ∧ r2 = Lib.trimPrefix r [44]) (hb : decimalL r2 = some (x, q)) : listGo (n + 1) acc r = listGo n (acc ++ [x]) q := by
  rw [listGo, if_neg (by rw [h]; decide)]
  rcases hc with ⟨h1, rfl⟩ | ⟨h1, h2, rfl⟩
  · rw [if_neg (fun x => x.1 h1), if_pos h1, hb]
  · rw [if_neg (fun x => by rw [h2] at x; exact absurd x.2 (by decide)), if_neg h1, hb]

end Go.Proofs.YthkbeaffkcfgiabGreatDoor

namespace Go.Proofs.YthkbeaffkcfgiabGreatDoor
open Go.RowKit

def intP (x : Int × List UInt8) : Value × List UInt8 := (.int .i64 x.1, x.2)
def natP (x : Nat × List UInt8) : Value × List UInt8 := (.int .u8 (x.1 : Int), x.2)

theorem u8_ofNat (b : UInt8) : ((b.toNat : Int).toNat).toUInt8 = b := by simp

set_option maxHeartbeats 800000 in
theorem digit_any (rb : Nat) (l : List UInt8) (w : World) (hR : RdAt w rb 271 [] l) (hl : l.length ≤ 2 ^ 50) :
    Calls Tryz.prog 316 #[.pointer (some ⟨rb, 0, none⟩)] w (REnds w rb 271 [] ((digitL l).map natP)) := by
  have HN : Hid (Calls Tryz.prog 269 #[.pointer (some ⟨rb, 0, none⟩)] w (REnds w rb 271 [] ((nextL l).map bytP))) := next_any rb 271 [] l w hR hl
  clear hR
  go_enter Tryz.func316, Tryz.ntmps316
  go_wp2_with fail
  refine Calls.mono HN.out ?_
  rintro e w2 (⟨v, l', hv, rfl, ht⟩ | ⟨hn, rfl, ht⟩)
  · cases hq : nextL l with
    | none => rw [hq] at hv; cases hv
    | some x =>
      obtain ⟨b, r⟩ := x
      rw [hq] at hv
      simp [bytP] at hv
      obtain ⟨rfl, rfl⟩ := hv
      have hI : ∀ W : World, Calls Tryz.prog 331 #[.string ⟨#[48, 49, 50, 51, 52, 53, 54, 55, 56, 57, 97, 98, 99, 100, 101, 102]⟩, .int .u8 b.toNat] W fun e w' => e = .returned (.int .i64 (Lib.indexByte hexL b)) ∧ w' = W := fun W => by
        have := Tryz.strings_IndexByte ⟨#[48, 49, 50, 51, 52, 53, 54, 55, 56, 57, 97, 98, 99, 100, 101, 102]⟩ b.toNat W
        rw [u8_ofNat] at this
        exact this
      have HI : Hid _ := hI
      have hd : digitL l = if 0 ≤ Lib.indexByte hexL b then some ((Lib.indexByte hexL b).toNat, r) else none := by unfold digitL; rw [hq]
      have hb16 : Lib.indexByte hexL b < 16 := by
        have : ∀ n : Fin 256, Lib.indexByte hexL (UInt8.ofNat n.val) < 16 := by decide +kernel
        have h2 := this ⟨b.toNat, b.toNat_lt⟩
        simpa using h2
      have HT : Hid (Rd w w2 rb 271 [] r) := ht
      have HD : Hid _ := hd
      clear ht hI hd hq
      generalize Lib.indexByte hexL b = i at HI HD hb16
      by_cases h0 : 0 ≤ i
      · have hw : IntKind.u8.wrap i = i := by rw [IntKind.wrap_u8]; omega
        have HE : Hid (REnds w rb 271 [] ((digitL l).map natP) (.returned (.int .u8 i)) w2) := Or.inl ⟨_, r, by rw [HD.out, if_pos h0]; show some (Value.int .u8 ((i.toNat : Nat) : Int), r) = _; rw [Int.toNat_of_nonneg h0], rfl, HT.out⟩
        go_wp2_with (first | (go_at_call 331; refine Calls.mono (HI.out _) ?_; rintro e w3 ⟨rfl, rfl⟩) | (go_at_call 183; refine (needS_yes _ _ (by first | rfl | (simp; omega))).mono ?_; rintro e w3 ⟨rfl, rfl⟩))
        go_ret
        exact HE.out
      · have HE : Hid (REnds w rb 271 [] ((digitL l).map natP) (.panicked wrongS) w2) := Or.inr ⟨by rw [HD.out, if_neg h0]; rfl, rfl, HT.out.turns⟩
        go_wp2_with (first | (go_at_call 331; refine Calls.mono (HI.out _) ?_; rintro e w3 ⟨rfl, rfl⟩) | (go_at_call 183; refine (needS_no _ _ (by first | rfl | (simp; omega))).mono ?_; rintro e w3 ⟨rfl, rfl⟩))
        exact ⟨rfl, HE.out⟩
  · go_wp2_with fail
    refine ⟨rfl, Or.inr ⟨?_, rfl, ht⟩⟩
    cases hq : nextL l with
    | none => unfold digitL; rw [hq]; rfl
    | some x => rw [hq] at hn; cases hn

/-- A call that answers this and changes nothing. -/
def BoolEnds (q : Bool) (w : World) (e : Ending) (w' : World) : Prop := ∃ x, e = .returned (.bool x) ∧ x = q ∧ w' = w

set_option maxHeartbeats 800000 in
theorem plain_ends (b : UInt8) (w : World) : Calls Tryz.prog 297 #[.int .u8 b.toNat] w (BoolEnds (plainL b) w) := by
  go_enter Tryz.func297, Tryz.ntmps297
  go_wp2
  all_goals go_ret
  all_goals refine ⟨_, rfl, ?_, rfl⟩
  all_goals unfold plainL
  · have : b.toNat = 34 := by omega
    simp [this]
  · have h1 : 33 ≤ b.toNat := by omega
    have h2 : b.toNat ≤ 126 := by omega
    have h3 : b.toNat ≠ 34 := by omega
    have e1 : ((b.toNat : Int) != 34) = !(b.toNat == 34) := by rw [Bool.eq_iff_iff]; simp; omega
    have e2 : ((b.toNat : Int) != 92) = !(b.toNat == 92) := by rw [Bool.eq_iff_iff]; simp; omega
    show ((b.toNat : Int) != 34 && (b.toNat : Int) != 92) = _
    rw [e1, e2]
    simp [h1, h2]
  · have h2 : ¬ b.toNat ≤ 126 := by omega
    simp [h2]
  · have h1 : ¬ 33 ≤ b.toNat := by omega
    simp [h1]
theorem plain_any (b : UInt8) (w : World) : Calls Tryz.prog 297 #[.int .u8 b.toNat] w fun e w' => e = .returned (.bool (plainL b)) ∧ w' = w :=
  (plain_ends b w).mono fun _ _ ⟨_, h1, h2, h3⟩ => ⟨by rw [h1, h2], h3⟩

set_option maxHeartbeats 800000 in
theorem truth_any (rb : Nat) (l : List UInt8) (w : World) (hR : RdAt w rb 271 [] l) :
    Calls Tryz.prog 283 #[.pointer (some ⟨rb, 0, none⟩)] w (REnds w rb 271 [] ((truthL l).map intP)) := by
  have HN : Hid (Calls Tryz.prog 238 #[.pointer (some ⟨rb, 0, none⟩), .string (mk [116])] w _) := took_any rb 271 [] l [116] w hR
  clear hR
  cases hq : Lib.hasPrefix l [116] with
  | true =>
    have HE : Hid (truthL l = some (1, Lib.trimPrefix l [116])) := by show _ = _; unfold truthL; rw [hq]; rfl
    rw [hq] at HN
    go_enter Tryz.func283, Tryz.ntmps283
    go_wp2_with (go_at_call 238; refine Calls.mono HN.out ?_; rintro e w2 ⟨rfl, ht⟩)
    go_ret
    exact Or.inl ⟨_, _, by rw [HE.out]; rfl, rfl, ht⟩
  | false =>
    have HE : Hid (truthL l = if Lib.hasPrefix l [102] then some (0, Lib.trimPrefix l [102]) else none) := by show _ = _; unfold truthL; rw [hq]; rfl
    rw [hq, trim_no hq] at HN
    go_enter Tryz.func283, Tryz.ntmps283
    go_wp2_with (go_at_call 238; refine Calls.mono HN.out ?_; rintro e w2 ⟨rfl, ht⟩)
    refine (skip_any rb 271 [] l [102] w2 ht.rest).mono ?_
    rintro e w3 ⟨⟨h1, rfl⟩ | ⟨h1, rfl⟩, h2⟩
    · rw [h1] at HE
      go_wp2_with fail
      go_ret
      exact Or.inl ⟨_, _, by rw [HE.out]; rfl, rfl, ht.trans h2⟩
    · rw [h1] at HE
      go_wp2_with fail
      exact ⟨rfl, Or.inr ⟨by rw [HE.out]; rfl, rfl, (ht.trans h2).turns⟩⟩

theorem or_hex (h o : Nat) (h1 : h < 16) (h2 : o < 16) : bits .or .u8 ((h : Int) * 16) (o : Int) = ((UInt8.ofNat (h * 16 + o)).toNat : Int) := by
  have : ∀ a b : Fin 16, bits .or .u8 ((a.val : Int) * 16) (b.val : Int) = ((UInt8.ofNat (a.val * 16 + b.val)).toNat : Int) := by decide +kernel
  exact this ⟨h, h1⟩ ⟨o, h2⟩

set_option maxHeartbeats 1600000 in
theorem quotedByte_any (rb : Nat) (l : List UInt8) (w : World) (hR : RdAt w rb 271 [] l) (hl : l.length ≤ 2 ^ 50) :
    Calls Tryz.prog 301 #[.pointer (some ⟨rb, 0, none⟩)] w (REnds w rb 271 [] ((quotedByteL l).map bytP)) := by
  have HN : Hid (Calls Tryz.prog 238 #[.pointer (some ⟨rb, 0, none⟩), .string (mk [92, 120])] w _) := took_any rb 271 [] l [92, 120] w hR
  clear hR
  cases hq : Lib.hasPrefix l [92, 120] with
  | true =>
    have HE : Hid (quotedByteL l = match digitL (Lib.trimPrefix l [92, 120]) with
      | none => none
      | some (h, r) => match digitL r with
        | none => none
        | some (o, r2) => if plainL (UInt8.ofNat (h * 16 + o)) then none else some (UInt8.ofNat (h * 16 + o), r2)) := by show _ = _; unfold quotedByteL; rw [hq]; rfl
    rw [hq] at HN
    have hl2 := trim_len l [92, 120]
    generalize Lib.trimPrefix l [92, 120] = l2 at HN HE hl2
    go_enter Tryz.func301, Tryz.ntmps301
    go_wp2_with (go_at_call 238; refine Calls.mono HN.out ?_; rintro e w2 ⟨rfl, ht⟩)
    refine (digit_any rb l2 w2 ht.rest (by omega)).mono ?_
    rintro e w3 (⟨v, l3, hv, rfl, ht3⟩ | ⟨hn, rfl, ht3⟩)
    · cases h1 : digitL l2 with
      | none => rw [h1] at hv; cases hv
      | some x =>
        obtain ⟨a, r⟩ := x
        rw [h1] at hv HE
        simp [natP] at hv
        obtain ⟨rfl, rfl⟩ := hv
        obtain ⟨hr, ha⟩ := digitL_len h1
        go_wp2_with fail
        refine (digit_any rb r w3 ht3.rest (by omega)).mono ?_
        rintro e w4 (⟨v, l4, hv, rfl, ht4⟩ | ⟨hn, rfl, ht4⟩)
        · cases h2 : digitL r with
          | none => rw [h2] at hv; cases hv
          | some y =>
            obtain ⟨o, r2⟩ := y
            rw [h2] at hv
            try simp only at HE
            rw [h2] at HE
            simp [natP] at hv
            obtain ⟨rfl, rfl⟩ := hv
            obtain ⟨hr2, ho⟩ := digitL_len h2
            have hor := or_hex a o ha ho
            try simp only at HE
            have HT : Hid (Rd w w4 rb 271 [] r2) := (ht.trans ht3).trans ht4
            clear ht ht3 ht4 h1 h2
            generalize UInt8.ofNat (a * 16 + o) = b at hor HE
            cases hp : plainL b with
            | true =>
              rw [hp] at HE
              have HP : Hid (∀ W, Calls Tryz.prog 297 #[.int .u8 b.toNat] W fun e w' => e = .returned (.bool true) ∧ w' = W) := fun W => by rw [← hp]; exact plain_any b W
              go_wp2_with (first | (go_at_call 297; refine Calls.mono (HP.out _) ?_; rintro e w3 ⟨rfl, rfl⟩) | (go_at_call 183; refine (needS_no _ _ rfl).mono ?_; rintro e w3 ⟨rfl, rfl⟩))
              exact ⟨rfl, Or.inr ⟨by rw [HE.out]; rfl, rfl, HT.out.turns⟩⟩
            | false =>
              rw [hp] at HE
              have HP : Hid (∀ W, Calls Tryz.prog 297 #[.int .u8 b.toNat] W fun e w' => e = .returned (.bool false) ∧ w' = W) := fun W => by rw [← hp]; exact plain_any b W
              go_wp2_with (first | (go_at_call 297; refine Calls.mono (HP.out _) ?_; rintro e w3 ⟨rfl, rfl⟩) | (go_at_call 183; refine (needS_yes _ _ rfl).mono ?_; rintro e w3 ⟨rfl, rfl⟩))
              go_ret
              exact Or.inl ⟨_, _, by rw [HE.out]; rfl, rfl, HT.out⟩
        · have hnn : digitL r = none := by
            cases h2 : digitL r with
            | none => rfl
            | some y => rw [h2] at hn; cases hn
          go_wp2_with fail
          try simp only at HE
          rw [hnn] at HE
          exact ⟨rfl, Or.inr ⟨by rw [HE.out]; rfl, rfl, ((ht.trans ht3).turns).trans' ht4⟩⟩
    · have hnn : digitL l2 = none := by
        cases h2 : digitL l2 with
        | none => rfl
        | some y => rw [h2] at hn; cases hn
      go_wp2_with fail
      rw [hnn] at HE
      exact ⟨rfl, Or.inr ⟨by rw [HE.out]; rfl, rfl, ht.turns.trans' ht3⟩⟩
  | false =>
    have HE : Hid (quotedByteL l = match nextL l with
      | none => none
      | some (b, r) => if plainL b then some (b, r) else none) := by show _ = _; unfold quotedByteL; rw [hq]; rfl
    rw [hq, trim_no hq] at HN
    go_enter Tryz.func301, Tryz.ntmps301
    go_wp2_with (go_at_call 238; refine Calls.mono HN.out ?_; rintro e w2 ⟨rfl, ht⟩)
    refine (next_any rb 271 [] l w2 ht.rest hl).mono ?_
    rintro e w3 (⟨v, l3, hv, rfl, ht3⟩ | ⟨hn, rfl, ht3⟩)
    · cases h1 : nextL l with
      | none => rw [h1] at hv; cases hv
      | some x =>
        obtain ⟨b, r⟩ := x
        rw [h1] at hv HE
        simp [bytP] at hv
        obtain ⟨rfl, rfl⟩ := hv
        try simp only at HE
        have HT : Hid (Rd w w3 rb 271 [] r) := ht.trans ht3
        clear ht ht3 h1
        cases hp : plainL b with
        | true =>
          rw [hp] at HE
          have HP : Hid (∀ W, Calls Tryz.prog 297 #[.int .u8 b.toNat] W fun e w' => e = .returned (.bool true) ∧ w' = W) := fun W => by rw [← hp]; exact plain_any b W
          go_wp2_with (first | (go_at_call 297; refine Calls.mono (HP.out _) ?_; rintro e w3 ⟨rfl, rfl⟩) | (go_at_call 183; refine (needS_yes _ _ rfl).mono ?_; rintro e w3 ⟨rfl, rfl⟩))
          go_ret
          exact Or.inl ⟨_, _, by rw [HE.out]; rfl, rfl, HT.out⟩
        | false =>
          rw [hp] at HE
          have HP : Hid (∀ W, Calls Tryz.prog 297 #[.int .u8 b.toNat] W fun e w' => e = .returned (.bool false) ∧ w' = W) := fun W => by rw [← hp]; exact plain_any b W
          go_wp2_with (first | (go_at_call 297; refine Calls.mono (HP.out _) ?_; rintro e w3 ⟨rfl, rfl⟩) | (go_at_call 183; refine (needS_no _ _ rfl).mono ?_; rintro e w3 ⟨rfl, rfl⟩))
          exact ⟨rfl, Or.inr ⟨by rw [HE.out]; rfl, rfl, HT.out.turns⟩⟩
    · have hnn : nextL l = none := by
        cases h2 : nextL l with
        | none => rfl
        | some y => rw [h2] at hn; cases hn
      go_wp2_with fail
      rw [hnn] at HE
      exact ⟨rfl, Or.inr ⟨by rw [HE.out]; rfl, rfl, ht.turns.trans' ht3⟩⟩

end Go.Proofs.YthkbeaffkcfgiabGreatDoor

namespace Go.Proofs.YthkbeaffkcfgiabGreatDoor
open Go.RowKit

/-- What the library's variables hold. -/
structure Glob (w : World) : Prop where
  most : ∃ m, w.cell? ⟨3, 0, none⟩ = some (.int .i64 m)
  syn : ∃ te pe, w.cell? ⟨7, 0, none⟩ = some (.iface te pe)
  rng : ∃ te pe, w.cell? ⟨8, 0, none⟩ = some (.iface te pe)
  tab : Lib.TabIs Tryz.prog w "internal/strconv.uint64pow10" .u64 Lib.pow10Tab
  size : 11 ≤ w.heap.size

theorem tab_block {w w' : World} (h : Lib.TabIs Tryz.prog w "internal/strconv.uint64pow10" .u64 Lib.pow10Tab) (hb : w'.heap[6]? = w.heap[6]?) : Lib.TabIs Tryz.prog w' "internal/strconv.uint64pow10" .u64 Lib.pow10Tab := by
  unfold Lib.TabIs World.var? at h ⊢
  have hg : Tryz.prog.globalNamed "internal/strconv.uint64pow10" = some 6 := by kernel_rfl
  rw [hg] at h ⊢
  simp only [Option.bind_some] at h ⊢
  rw [hb]
  exact h

theorem Glob.turn {w w' : World} (h : Glob w) (hs : w.heap.size ≤ w'.heap.size) (hb : ∀ k, k < 11 → w'.heap[k]? = w.heap[k]?) : Glob w' := by
  obtain ⟨m, h1⟩ := h.most
  obtain ⟨a, b, h2⟩ := h.syn
  obtain ⟨c, d, h3⟩ := h.rng
  exact ⟨⟨m, (World.cell?_of_block (a := ⟨3, 0, none⟩) (hb 3 (by omega))).trans h1⟩, ⟨a, b, (World.cell?_of_block (a := ⟨7, 0, none⟩) (hb 7 (by omega))).trans h2⟩, ⟨c, d, (World.cell?_of_block (a := ⟨8, 0, none⟩) (hb 8 (by omega))).trans h3⟩, tab_block h.tab (hb 6 (by omega)), Nat.le_trans h.size hs⟩
theorem Glob.below {w w' : World} {n : Nat} (h : Glob w) (hn : 11 ≤ n) (hb : Below n w w') (hs : w.heap.size ≤ w'.heap.size) : Glob w' := h.turn hs fun k hk => hb.block k (by omega)
theorem Glob.turns {w w' : World} {F : Nat → Prop} (h : Glob w) (ht : Turns w w' F) (hF : ∀ k, F k → 11 ≤ k) : Glob w' := h.turn ht.size fun k hk => ht.block k (by have := h.size; omega) (fun hk' => by have := hF k hk'; omega)

theorem word_len (l : List UInt8) : (Lib.trimLeftS l decSet).length ≤ l.length := by
  unfold Lib.trimLeftS
  exact List.Sublist.length_le (List.dropWhile_sublist _)

set_option maxHeartbeats 3200000 in
theorem decimal_any (rb : Nat) (l : List UInt8) (w : World) (hR : RdAt w rb 271 [] l) (hl : l.length ≤ 2 ^ 40) (hG : Glob w) (hrb : 11 ≤ rb) :
    Calls Tryz.prog 282 #[.pointer (some ⟨rb, 0, none⟩)] w (REnds w rb 271 [] ((decimalL l).map intP)) := by
  have hc := hR.cell
  have hz : (mk l).size = l.length := size_mk l
  have HTr : Hid (Calls Tryz.prog 298 #[.string (mk l), .string ⟨#[45, 48, 49, 50, 51, 52, 53, 54, 55, 56, 57]⟩] w fun e w' => e = .returned (.string (mk (Lib.trimLeftS l decSet))) ∧ Below w.heap.size w w') := by
    have := Go.Proofs.Any.strings_TrimLeft_laid Tryz.lays161 (by kernel_rfl) (mk l) ⟨#[45, 48, 49, 50, 51, 52, 53, 54, 55, 56, 57]⟩ w (by decide) (ascii_of_all (by decide))
    rw [data_mk] at this
    exact this
  have hwl := word_len l
  have HD : Hid (decimalL l = match Lib.atoiAll (l.take (l.length - (Lib.trimLeftS l decSet).length)) with
    | .ok v => if Lib.itoa v = l.take (l.length - (Lib.trimLeftS l decSet).length) then some (v, l.drop (l.length - (Lib.trimLeftS l decSet).length)) else none
    | _ => none) := rfl
  have HR : Hid (RdAt w rb 271 [] l) := hR
  have HGl : Hid (Glob w) := hG
  clear hR hG
  generalize Lib.trimLeftS l decSet = behind at HTr hwl HD
  go_enter Tryz.func282, Tryz.ntmps282
  go_wp2_with fail
  refine Calls.mono HTr.out ?_
  rintro e w2 ⟨rfl, hb2⟩
  have hR2 := HR.out.below hb2
  have hc2 := hR2.cell
  have hz2 : (mk behind).size = behind.length := size_mk behind
  have hsub : ((l.length : Int) - (behind.length : Int)) = ((l.length - behind.length : Nat) : Int) := by omega
  obtain ⟨n, hn⟩ : ∃ n, n = l.length - behind.length := ⟨_, rfl⟩
  rw [← hn] at hsub HD
  have HTk : Hid (Calls Tryz.prog 287 #[.pointer (some ⟨rb, 0, none⟩), .int .i64 n] w2.drew fun e w' => e = .returned (.string (mk (l.take n))) ∧ Rd w w' rb 271 [] (l.drop n)) := by
    refine (take_any rb 271 [] l n w2.drew hR2 (by omega) (by omega)).mono ?_
    rintro e w' (⟨v, l', hv, rfl, ht⟩ | ⟨hnn, _, _⟩)
    · unfold takeL at hv
      rw [if_pos (by omega)] at hv
      simp [strP] at hv
      obtain ⟨rfl, rfl⟩ := hv
      exact ⟨rfl, ht.rest, (Turns.ofBelow _ hb2).trans' ⟨ht.turns.os, ht.turns.tape, ht.turns.output, ht.turns.size, ht.turns.block⟩⟩
    · unfold takeL at hnn
      rw [if_pos (by omega)] at hnn
      cases hnn
  clear hb2 hR2
  have hwr : IntKind.i64.wrap (n : Int) = (n : Int) := by rw [IntKind.wrap_i64]; omega
  clear hn
  go_wp2_with fail
  go_region_with (go_at_call 287; refine Calls.mono HTk.out ?_; rintro e w3 ⟨rfl, ht3⟩)
  have HT3 : Hid (Rd w w3 rb 271 [] (l.drop n)) := ht3
  have HG3 : Hid (Glob w3) := HGl.out.turns ht3.turns (fun k hk => by subst hk; exact hrb)
  have hwz : (mk (l.take n)).size ≤ 2 ^ 40 := by rw [size_mk]; simp; omega
  have HDt : Hid ((mk (l.take n)).data.toList = l.take n) := data_mk _
  clear ht3
  generalize l.take n = word at HD HDt hwz HTk ⊢
  cases ha : Lib.atoiAll word with
  | ok v =>
    rw [ha] at HD
    obtain ⟨hv0, hv1⟩ := atoi_bound ha
    have HA : Hid (Calls Tryz.prog 299 #[.string (mk word)] w3 fun e w' => e = .returned (.tuple #[.int .i64 v, .nilIface]) ∧ Below w3.heap.size w3 w') := by
      refine (Tryz.strconv_Atoi_ok (mk word) (by omega) v (by rw [HDt.out]; exact ha) w3).mono ?_
      rintro e w' ⟨rfl, rfl | ⟨t, rfl⟩⟩
      · exact ⟨rfl, Below.refl _ _⟩
      · exact ⟨rfl, Lib.bytesWorld_below _ _ _⟩
    go_wp2_with (go_at_call 299; refine Calls.mono HA.out ?_; rintro e w4 ⟨rfl, hb4⟩)
    have HT4 : Hid (Rd w w4 rb 271 [] (l.drop n)) := HT3.out.below hb4
    have HI : Hid (Calls Tryz.prog 300 #[.int .i64 v] w4 fun e w' => e = .returned (.string (mk (Lib.itoa v))) ∧ Below w4.heap.size w4 w') := by
      refine (Tryz.strconv_Itoa v hv0 hv1 w4 (HG3.out.below HG3.out.size hb4 hb4.size).tab).mono ?_
      rintro e w' ⟨rfl, k, os, rfl⟩
      exact ⟨rfl, Lib.below_grow _ _ (Nat.le_refl _) _ _⟩
    clear hb4 ha
    by_cases hq : Lib.itoa v = word
    · rw [if_pos hq] at HD
      rw [hq] at HI
      have hbq : ((mk word).toList == (mk word).toList) = true := by simp
      have HE : Hid (∀ w5, Below w4.heap.size w4 w5 → REnds w rb 271 [] ((decimalL l).map intP) (.returned (.int .i64 v)) w5) := fun w5 hb5 => Or.inl ⟨_, _, by rw [HD.out]; rfl, rfl, HT4.out.below hb5⟩
      go_wp2_with (first | (go_at_call 300; refine Calls.mono HI.out ?_; rintro e w5 ⟨rfl, hb5⟩) | (go_at_call 183; refine (needS_yes _ _ (by first | rfl | simp)).mono ?_; rintro e w6 ⟨rfl, rfl⟩))
      go_ret
      exact HE.out _ hb5
    · rw [if_neg hq] at HD
      have hbq : ((mk (Lib.itoa v)).toList == (mk word).toList) = false := by rw [toList_mk, toList_mk, beq_eq_false_iff_ne]; exact hq
      have HE : Hid (∀ w5, Below w4.heap.size w4 w5 → REnds w rb 271 [] ((decimalL l).map intP) (.panicked wrongS) w5) := fun w5 hb5 => Or.inr ⟨by rw [HD.out]; rfl, rfl, (HT4.out.below hb5).turns⟩
      go_wp2_with (first | (go_at_call 300; refine Calls.mono HI.out ?_; rintro e w5 ⟨rfl, hb5⟩) | (go_at_call 183; refine (needS_no _ _ (by first | rfl | simp)).mono ?_; rintro e w6 ⟨rfl, rfl⟩))
      exact ⟨rfl, HE.out _ hb5⟩
  | «syntax» =>
    rw [ha] at HD
    obtain ⟨te, pe, hs⟩ := HG3.out.syn
    have HA : Hid (Calls Tryz.prog 299 #[.string (mk word)] w3 fun e w' => ∃ N : Nat, e = .returned (.tuple #[.int .i64 0, .iface 407 (.pointer (some ⟨N, 0, none⟩))]) ∧ Below w3.heap.size w3 w') := by
      refine (Tryz.strconv_Atoi_syntax (mk word) (by omega) (by rw [HDt.out]; exact ha) _ w3 hs (Or.inr ⟨te, pe, rfl⟩)).mono ?_
      rintro e w' ⟨N, rfl, _, _, hb⟩
      exact ⟨N, rfl, hb⟩
    have HE : Hid (∀ w5, Below w3.heap.size w3 w5 → REnds w rb 271 [] ((decimalL l).map intP) (.panicked wrongS) w5) := fun w5 hb5 => Or.inr ⟨by rw [HD.out]; rfl, rfl, (HT3.out.below hb5).turns⟩
    clear ha hs
    go_wp2_with (first | (go_at_call 299; refine Calls.mono HA.out ?_; rintro e w4 ⟨N, rfl, hb4⟩) | (go_at_call 183; refine (needS_no _ _ (by first | rfl | simp)).mono ?_; rintro e w6 ⟨rfl, rfl⟩))
    exact ⟨rfl, HE.out _ hb4⟩
  | range =>
    rw [ha] at HD
    obtain ⟨te, pe, hs⟩ := HG3.out.rng
    have HA : Hid (Calls Tryz.prog 299 #[.string (mk word)] w3 fun e w' => ∃ (N : Nat) (x : Int), e = .returned (.tuple #[.int .i64 x, .iface 407 (.pointer (some ⟨N, 0, none⟩))]) ∧ Below w3.heap.size w3 w') := by
      refine (Tryz.strconv_Atoi_range (mk word) (by omega) (by rw [HDt.out]; exact ha) _ w3 hs (Or.inr ⟨te, pe, rfl⟩)).mono ?_
      rintro e w' ⟨N, rfl, _, _, hb⟩
      exact ⟨N, _, rfl, hb⟩
    have HE : Hid (∀ w5, Below w3.heap.size w3 w5 → REnds w rb 271 [] ((decimalL l).map intP) (.panicked wrongS) w5) := fun w5 hb5 => Or.inr ⟨by rw [HD.out]; rfl, rfl, (HT3.out.below hb5).turns⟩
    clear ha hs
    go_wp2_with (first | (go_at_call 299; refine Calls.mono HA.out ?_; rintro e w4 ⟨N, x, rfl, hb4⟩) | (go_at_call 183; refine (needS_no _ _ (by first | rfl | simp)).mono ?_; rintro e w6 ⟨rfl, rfl⟩))
    exact ⟨rfl, HE.out _ hb4⟩

set_option maxHeartbeats 1600000 in
theorem ref_any (rb : Nat) (l : List UInt8) (w : World) (hR : RdAt w rb 271 [] l) (hl : l.length ≤ 2 ^ 40) (hG : Glob w) (hrb : 11 ≤ rb) :
    Calls Tryz.prog 285 #[.pointer (some ⟨rb, 0, none⟩)] w (REnds w rb 271 [] ((refL l).map intP)) := by
  have HN : Hid (Calls Tryz.prog 238 #[.pointer (some ⟨rb, 0, none⟩), .string (mk [45])] w _) := took_any rb 271 [] l [45] w hR
  have HGl : Hid (Glob w) := hG
  clear hR hG
  cases hq : Lib.hasPrefix l [45] with
  | true =>
    have HE : Hid (refL l = some (0, Lib.trimPrefix l [45])) := by show _ = _; unfold refL; rw [hq]; rfl
    rw [hq] at HN
    go_enter Tryz.func285, Tryz.ntmps285
    go_wp2_with (go_at_call 238; refine Calls.mono HN.out ?_; rintro e w2 ⟨rfl, ht⟩)
    go_ret
    exact Or.inl ⟨_, _, by rw [HE.out]; rfl, rfl, ht⟩
  | false =>
    have HE : Hid (refL l = if Lib.hasPrefix l [64] then
      match decimalL (Lib.trimPrefix l [64]) with
      | none => none
      | some (n, r) => if 0 ≤ n ∧ n < 20 then some (n + 1, r) else none
      else none) := by show _ = _; unfold refL; rw [hq]; rfl
    rw [hq, trim_no hq] at HN
    go_enter Tryz.func285, Tryz.ntmps285
    go_wp2_with (go_at_call 238; refine Calls.mono HN.out ?_; rintro e w2 ⟨rfl, ht⟩)
    refine (skip_any rb 271 [] l [64] w2 ht.rest).mono ?_
    rintro e w3 ⟨⟨h1, rfl⟩ | ⟨h1, rfl⟩, h2⟩
    · rw [h1] at HE
      have hl2 := trim_len l [64]
      have HT : Hid (Rd w w3 rb 271 [] (Lib.trimPrefix l [64])) := ht.trans h2
      clear ht h2 h1
      generalize Lib.trimPrefix l [64] = l2 at HE HT hl2
      go_wp2_with fail
      refine (decimal_any rb l2 w3 HT.out.rest (by omega) (HGl.out.turns HT.out.turns (fun k hk => by subst hk; exact hrb)) hrb).mono ?_
      rintro e w4 (⟨v, l3, hv, rfl, ht3⟩ | ⟨hn, rfl, ht3⟩)
      · cases hd : decimalL l2 with
        | none => rw [hd] at hv; cases hv
        | some x =>
          obtain ⟨n, r⟩ := x
          rw [hd] at hv HE
          simp [intP] at hv
          obtain ⟨rfl, rfl⟩ := hv
          have HT4 : Hid (Rd w w4 rb 271 [] r) := HT.out.trans ht3
          clear hd ht3
          by_cases h0 : 0 ≤ n
          · by_cases h20 : n < 20
            · have hw : IntKind.i64.wrap (n + 1) = n + 1 := by rw [IntKind.wrap_i64]; omega
              have HE2 : Hid (REnds w rb 271 [] ((refL l).map intP) (.returned (.int .i64 (n + 1))) w4) := Or.inl ⟨_, _, by rw [HE.out]; simp [h0, h20]; rfl, rfl, HT4.out⟩
              go_wp2_with (go_at_call 183; refine (needS_yes _ _ (by first | rfl | (simp; omega))).mono ?_; rintro e w6 ⟨rfl, rfl⟩)
              go_ret
              exact HE2.out
            · have HE2 : Hid (REnds w rb 271 [] ((refL l).map intP) (.panicked wrongS) w4) := Or.inr ⟨by rw [HE.out]; simp [h0, h20], rfl, HT4.out.turns⟩
              go_wp2_with (go_at_call 183; refine (needS_no _ _ (by first | rfl | (simp; omega))).mono ?_; rintro e w6 ⟨rfl, rfl⟩)
              exact ⟨rfl, HE2.out⟩
          · have HE2 : Hid (REnds w rb 271 [] ((refL l).map intP) (.panicked wrongS) w4) := Or.inr ⟨by rw [HE.out]; simp [h0], rfl, HT4.out.turns⟩
            go_wp2_with (go_at_call 183; refine (needS_no _ _ (by first | rfl | (simp; omega))).mono ?_; rintro e w6 ⟨rfl, rfl⟩)
            exact ⟨rfl, HE2.out⟩
      · have hnn : decimalL l2 = none := by
          cases h2 : decimalL l2 with
          | none => rfl
          | some y => rw [h2] at hn; cases hn
        rw [hnn] at HE
        go_wp2_with fail
        exact ⟨rfl, Or.inr ⟨by rw [HE.out]; rfl, rfl, HT.out.turns.trans' ht3⟩⟩
    · rw [h1] at HE
      go_wp2_with fail
      exact ⟨rfl, Or.inr ⟨by rw [HE.out]; rfl, rfl, (ht.trans h2).turns⟩⟩

end Go.Proofs.YthkbeaffkcfgiabGreatDoor
