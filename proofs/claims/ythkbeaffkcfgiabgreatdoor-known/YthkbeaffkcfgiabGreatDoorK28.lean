import Derived.Test.YthkbeaffkcfgiabGreatDoorK27
set_option linter.unusedSimpArgs false
set_option linter.unusedVariables false
namespace Go.Proofs.YthkbeaffkcfgiabGreatDoor
open Go.RowKit

/-- Seven bits at their place. -/
def shlV (b : UInt8) (k : Nat) : Int := IntKind.u64.wrap ((b.toNat : Int) % 128 * 2 ^ min k 64)
def okS (b : UInt8) (k : Nat) : Bool := shlV b k / 2 ^ min k 64 == (b.toNat : Int) % 128
def sevensGo : List UInt8 → Nat → Int → Option (Int × List UInt8)
  | [], _, _ => none
  | b :: r, k, c => if okS b k then
      if b.toNat < 128 then
        if 0 < b.toNat ∨ k = 0 then some (bits .or .u64 c (shlV b k), r) else none
      else sevensGo r (k + 7) (bits .or .u64 c (shlV b k))
    else none
def sevensL (l : List UInt8) : Option (Int × List UInt8) := sevensGo l 0 0
def u64P (x : Int × List UInt8) : Value × List UInt8 := (.int .u64 x.1, x.2)

theorem or_u64 (a b : Int) : 0 ≤ bits .or .u64 a b ∧ bits .or .u64 a b < 18446744073709551616 := by
  unfold bits
  simp only
  rw [IntKind.wrap_u64]
  omega
theorem sevensGo_range : ∀ (l : List UInt8) (k : Nat) (c : Int) {x : Int} {r : List UInt8}, sevensGo l k c = some (x, r) → (0 ≤ x ∧ x < 18446744073709551616) ∧ r.length < l.length
  | [], k, c, x, r, h => by simp [sevensGo] at h
  | b :: t, k, c, x, r, h => by
    rw [sevensGo] at h
    split at h
    · split at h
      · split at h
        · simp at h
          rw [← h.1, ← h.2]
          exact ⟨or_u64 _ _, by simp⟩
        · cases h
      · have := sevensGo_range t _ _ h
        exact ⟨this.1, by simp; omega⟩
    · cases h
theorem sevensL_range {l r : List UInt8} {x : Int} (h : sevensL l = some (x, r)) : (0 ≤ x ∧ x < 18446744073709551616) ∧ r.length < l.length := sevensGo_range l 0 0 h

set_option maxHeartbeats 6400000 in
set_option maxRecDepth 20000 in
theorem sevens_any (rb : Nat) (tail : List Value) (l : List UInt8) (w : World) (hR : RdAt w rb 276 tail l) (hl : l.length ≤ 2 ^ 40) :
    Calls Tryz.prog 239 #[.pointer (some ⟨rb, 0, none⟩)] w (REnds w rb 276 tail ((sevensL l).map u64P)) := by
  have hrb := hR.lt
  have HR0 : Hid (Rd w w rb 276 tail l) := Rd.refl hR
  clear hR
  go_enter Tryz.func239, Tryz.ntmps239
  go_wp2_with fail
  go_loopw [3, 4] (fun c s wr => ∃ (k : Nat) (cn : Int) (r : List UInt8), c = .int .u64 cn ∧ s = .int .i64 k ∧ k + 7 * r.length = 7 * l.length ∧ Hid (sevensL l = sevensGo r k cn) ∧ Hid (Rd w wr rb 276 tail r)) (fun _ s _ => 7 * l.length + 8 - (intOf s).toNat)
  case atStart => exact ⟨0, 0, l, rfl, rfl, by omega, rfl, HR0⟩
  case round =>
    obtain ⟨k, cn, r, rfl, rfl, hk, HG, HR⟩ := hrel
    have hnx := next_any rb 276 tail r wr HR.out.rest (by omega)
    have HNx : Hid (Calls Tryz.prog 269 #[.pointer (some ⟨rb, 0, none⟩)] wr (REnds wr rb 276 tail ((nextL r).map bytP))) := hnx
    clear hnx
    cases r with
    | nil =>
      have HN : Hid (sevensL l = none) := by show _ = _; rw [HG.out, sevensGo]
      go_wp2_with fail
      refine Calls.mono HNx.out ?_
      rintro e w3 (⟨v, l3, hv, rfl, ht3⟩ | ⟨_, rfl, ht3⟩)
      · cases hv
      · go_wp2_with fail
        exact ⟨rfl, Or.inr ⟨by rw [HN.out]; rfl, rfl, HR.out.turns.trans' ht3⟩⟩
    | cons b r =>
      have HG2 : Hid (sevensL l = if okS b k then
          if b.toNat < 128 then
            if 0 < b.toNat ∨ k = 0 then some (bits .or .u64 cn (shlV b k), r) else none
          else sevensGo r (k + 7) (bits .or .u64 cn (shlV b k))
        else none) := by show _ = _; rw [HG.out, sevensGo]
      have hk2 : k + 7 * r.length + 7 = 7 * l.length := by simp at hk; omega
      have HN2 : Hid (Calls Tryz.prog 269 #[.pointer (some ⟨rb, 0, none⟩)] wr fun e w' => e = .returned (.int .u8 b.toNat) ∧ Rd w w' rb 276 tail r) := by
        refine Calls.mono HNx.out ?_
        rintro e w3 (⟨v, l3, hv, rfl, ht3⟩ | ⟨hn, _, _⟩)
        · simp [nextL, bytP] at hv
          obtain ⟨rfl, rfl⟩ := hv
          exact ⟨rfl, HR.out.trans ht3⟩
        · cases hn
      have esh : IntKind.u64.wrap ((b.toNat : Int) % 128 * 2 ^ min k 64) = shlV b k := rfl
      have eok : (shlV b k / 2 ^ min k 64 == (b.toNat : Int) % 128) = okS b k := rfl
      clear hk HG HNx HR
      cases hok : okS b k with
      | false =>
        rw [hok] at HG2
        go_wp2_with (first | (go_at_call 269; refine Calls.mono HN2.out ?_; rintro e w3 ⟨rfl, hr3⟩) | (go_at_call 183; refine (needS_no _ _ (by simp [hok])).mono ?_; rintro e w6 ⟨rfl, h2⟩; obtain rfl := h2))
        exact ⟨rfl, Or.inr ⟨by rw [HG2.out]; rfl, rfl, hr3.turns⟩⟩
      | true =>
        rw [hok] at HG2
        by_cases h128 : b.toNat < 128
        · have h128i : ((b.toNat : Int) < 128) := by omega
          by_cases hz : 0 < b.toNat ∨ k = 0
          · have HE : Hid (sevensL l = some (bits .or .u64 cn (shlV b k), r)) := by show _ = _; rw [HG2.out, if_pos rfl, if_pos h128, if_pos hz]
            have HEx : Hid (∀ w3, Rd w w3 rb 276 tail r → REnds w rb 276 tail ((sevensL l).map u64P) (.returned (.int .u64 (bits .or .u64 cn (shlV b k)))) w3) := fun w3 h => Or.inl ⟨_, _, by rw [HE.out]; rfl, rfl, h⟩
            by_cases hb0 : 0 < b.toNat
            · have hb0i : (0 : Int) < (b.toNat : Int) := by omega
              clear hz
              go_wp2_with (first | (go_at_call 269; refine Calls.mono HN2.out ?_; rintro e w3 ⟨rfl, hr3⟩) | (go_at_call 183; refine (needS_yes _ _ (by simp [hok])).mono ?_; rintro e w6 ⟨rfl, h2⟩; obtain rfl := h2))
              go_ret
              exact HEx.out _ hr3
            · have hk0 : k = 0 := by omega
              have hbz : b = 0 := UInt8.toNat_inj.1 (by simp; omega)
              subst hk0
              subst hbz
              have e00 : shlV 0 0 = 0 := by decide +kernel
              rw [e00] at HEx
              clear hz HE HG2 esh eok hok e00
              go_wp2_with (first | (go_at_call 269; refine Calls.mono HN2.out ?_; rintro e w3 ⟨rfl, hr3⟩) | (go_at_call 183; refine (needS_yes _ _ (by simp)).mono ?_; rintro e w6 ⟨rfl, h2⟩; obtain rfl := h2))
              go_ret
              exact HEx.out _ hr3
          · have HE : Hid (sevensL l = none) := by show _ = _; rw [HG2.out, if_pos rfl, if_pos h128, if_neg hz]
            have hb0 : ¬ 0 < b.toNat := fun h => hz (Or.inl h)
            have hb0i : ¬ (0 : Int) < (b.toNat : Int) := by omega
            have hk0 : ¬ k = 0 := fun h => hz (Or.inr h)
            have hk0i : ¬ (k : Int) = 0 := by omega
            have hk0b : ((k : Int) == 0) = false := by simp; omega
            clear hz
            go_wp2_with (go_at_call 269; refine Calls.mono HN2.out ?_; rintro e w3 ⟨rfl, hr3⟩)
            refine (needS_yes _ _ (by simp [hok])).mono ?_
            rintro e w6 ⟨rfl, h2⟩
            obtain rfl := h2
            go_wp2_with fail
            refine (needS_no _ _ (by simp <;> omega)).mono ?_
            rintro e w6 ⟨rfl, h2⟩
            obtain rfl := h2
            exact ⟨rfl, Or.inr ⟨by rw [HE.out]; rfl, rfl, hr3.turns⟩⟩
        · have h128i : ¬ ((b.toNat : Int) < 128) := by omega
          have HE : Hid (sevensL l = sevensGo r (k + 7) (bits .or .u64 cn (shlV b k))) := by show _ = _; rw [HG2.out, if_pos rfl, if_neg h128]
          have hw : IntKind.i64.wrap ((k : Int) + 7) = (k : Int) + 7 := by rw [IntKind.wrap_i64]; omega
          go_wp2_with (first | (go_at_call 269; refine Calls.mono HN2.out ?_; rintro e w3 ⟨rfl, hr3⟩) | (go_at_call 183; refine (needS_yes _ _ (by simp [hok])).mono ?_; rintro e w6 ⟨rfl, h2⟩; obtain rfl := h2))
          exact ⟨⟨k + 7, _, r, rfl, by go_num, by omega, HE, hr3⟩, by simp [intOf]; omega⟩

def countL (least most : Int) (l : List UInt8) : Option (Int × List UInt8) :=
  match sevensL l with
  | none => none
  | some (c, r) => if c ≤ 9223372036854775807 ∧ least ≤ c ∧ c ≤ most then some (c, r) else none
def numberL (l : List UInt8) : Option (Int × List UInt8) :=
  match sevensL l with
  | none => none
  | some (c, r) => some (if c % 2 = 1 then -(c / 2) - 1 else c / 2, r)

theorem countL_range {least most : Int} {l r : List UInt8} {x : Int} (h : countL least most l = some (x, r)) : 0 ≤ x ∧ least ≤ x ∧ x ≤ most ∧ r.length < l.length := by
  unfold countL at h
  cases hs : sevensL l with
  | none => rw [hs] at h; cases h
  | some y =>
    obtain ⟨c, q⟩ := y
    rw [hs] at h
    simp only at h
    split at h
    · rename_i hc
      simp at h
      have := sevensL_range hs
      rw [← h.1, ← h.2]
      exact ⟨this.1.1, hc.2.1, hc.2.2, this.2⟩
    · cases h
theorem numberL_range {l r : List UInt8} {x : Int} (h : numberL l = some (x, r)) : -9223372036854775808 ≤ x ∧ x ≤ 9223372036854775807 ∧ r.length < l.length := by
  unfold numberL at h
  cases hs : sevensL l with
  | none => rw [hs] at h; cases h
  | some y =>
    obtain ⟨c, q⟩ := y
    rw [hs] at h
    simp at h
    have := sevensL_range hs
    rw [← h.1, ← h.2]
    refine ⟨?_, ?_, this.2⟩ <;> split <;> omega

set_option maxHeartbeats 3200000 in
set_option maxRecDepth 20000 in
theorem count_any (rb : Nat) (tail : List Value) (least most : Int) (l : List UInt8) (w : World) (hR : RdAt w rb 276 tail l) (hl : l.length ≤ 2 ^ 40) :
    Calls Tryz.prog 187 #[.pointer (some ⟨rb, 0, none⟩), .int .i64 least, .int .i64 most] w (REnds w rb 276 tail ((countL least most l).map intP)) := by
  have HS : Hid (Calls Tryz.prog 239 #[.pointer (some ⟨rb, 0, none⟩)] w _) := sevens_any rb tail l w hR hl
  clear hR
  go_enter Tryz.func187, Tryz.ntmps187
  go_wp2_with fail
  refine Calls.mono HS.out ?_
  rintro e w2 (⟨v, l', hv, rfl, ht⟩ | ⟨hn, rfl, ht⟩)
  · cases hq : sevensL l with
    | none => rw [hq] at hv; cases hv
    | some x =>
      obtain ⟨c, r⟩ := x
      rw [hq] at hv
      simp [u64P] at hv
      obtain ⟨rfl, rfl⟩ := hv
      obtain ⟨⟨hc0, hc1⟩, _⟩ := sevensL_range hq
      have HC : Hid (countL least most l = if c ≤ 9223372036854775807 ∧ least ≤ c ∧ c ≤ most then some (c, r) else none) := by show _ = _; unfold countL; rw [hq]
      have HT : Hid (Rd w w2 rb 276 tail r) := ht
      clear hq ht
      by_cases h1 : c ≤ 9223372036854775807
      · have hw : IntKind.i64.wrap c = c := by rw [IntKind.wrap_i64]; omega
        by_cases h2 : least ≤ c
        · by_cases h3 : c ≤ most
          · have HE : Hid (REnds w rb 276 tail ((countL least most l).map intP) (.returned (.int .i64 c)) w2) := Or.inl ⟨_, _, by rw [HC.out, if_pos ⟨h1, h2, h3⟩]; rfl, rfl, HT.out⟩
            go_wp2_with (go_at_call 183; refine (needS_yes _ _ (by simp <;> omega)).mono ?_; rintro e w6 ⟨rfl, h2⟩; obtain rfl := h2)
            go_ret
            exact HE.out
          · have HE : Hid (REnds w rb 276 tail ((countL least most l).map intP) (.panicked wrongS) w2) := Or.inr ⟨by rw [HC.out, if_neg (fun h => h3 h.2.2)]; rfl, rfl, HT.out.turns⟩
            go_wp2_with fail
            refine (needS_yes _ _ (by simp <;> omega)).mono ?_
            rintro e w6 ⟨rfl, q2⟩
            obtain rfl := q2
            go_wp2_with fail
            refine (needS_no _ _ (by simp <;> omega)).mono ?_
            rintro e w6 ⟨rfl, q2⟩
            obtain rfl := q2
            exact ⟨rfl, HE.out⟩
        · have HE : Hid (REnds w rb 276 tail ((countL least most l).map intP) (.panicked wrongS) w2) := Or.inr ⟨by rw [HC.out, if_neg (fun h => h2 h.2.1)]; rfl, rfl, HT.out.turns⟩
          go_wp2_with fail
          refine (needS_yes _ _ (by simp <;> omega)).mono ?_
          rintro e w6 ⟨rfl, q2⟩
          obtain rfl := q2
          go_wp2_with fail
          refine (needS_no _ _ (by simp <;> omega)).mono ?_
          rintro e w6 ⟨rfl, q2⟩
          obtain rfl := q2
          exact ⟨rfl, HE.out⟩
      · have HE : Hid (REnds w rb 276 tail ((countL least most l).map intP) (.panicked wrongS) w2) := Or.inr ⟨by rw [HC.out, if_neg (fun h => h1 h.1)]; rfl, rfl, HT.out.turns⟩
        go_wp2_with fail
        refine (needS_no _ _ (by simp <;> omega)).mono ?_
        rintro e w6 ⟨rfl, q2⟩
        obtain rfl := q2
        exact ⟨rfl, HE.out⟩
  · go_wp2_with fail
    refine ⟨rfl, Or.inr ⟨?_, rfl, ht⟩⟩
    cases hq : sevensL l with
    | none => unfold countL; rw [hq]; rfl
    | some x => rw [hq] at hn; cases hn

set_option maxHeartbeats 3200000 in
set_option maxRecDepth 20000 in
theorem number_any (rb : Nat) (tail : List Value) (l : List UInt8) (w : World) (hR : RdAt w rb 276 tail l) (hl : l.length ≤ 2 ^ 40) :
    Calls Tryz.prog 288 #[.pointer (some ⟨rb, 0, none⟩)] w (REnds w rb 276 tail ((numberL l).map intP)) := by
  have HS : Hid (Calls Tryz.prog 239 #[.pointer (some ⟨rb, 0, none⟩)] w _) := sevens_any rb tail l w hR hl
  clear hR
  go_enter Tryz.func288, Tryz.ntmps288
  go_wp2_with fail
  refine Calls.mono HS.out ?_
  rintro e w2 (⟨v, l', hv, rfl, ht⟩ | ⟨hn, rfl, ht⟩)
  · cases hq : sevensL l with
    | none => rw [hq] at hv; cases hv
    | some x =>
      obtain ⟨c, r⟩ := x
      rw [hq] at hv
      simp [u64P] at hv
      obtain ⟨rfl, rfl⟩ := hv
      obtain ⟨⟨hc0, hc1⟩, _⟩ := sevensL_range hq
      have HC : Hid (numberL l = some (if c % 2 = 1 then -(c / 2) - 1 else c / 2, r)) := by show _ = _; unfold numberL; rw [hq]
      have HT : Hid (Rd w w2 rb 276 tail r) := ht
      have hw : IntKind.i64.wrap (c / 2) = c / 2 := by rw [IntKind.wrap_i64]; omega
      have hw1 : IntKind.i64.wrap (-(c / 2)) = -(c / 2) := by rw [IntKind.wrap_i64]; omega
      have hw2 : IntKind.i64.wrap (-(c / 2) - 1) = -(c / 2) - 1 := by rw [IntKind.wrap_i64]; omega
      clear hq ht
      by_cases h1 : c % 2 = 1
      · have HE : Hid (REnds w rb 276 tail ((numberL l).map intP) (.returned (.int .i64 (-(c / 2) - 1))) w2) := Or.inl ⟨_, _, by rw [HC.out, if_pos h1]; rfl, rfl, HT.out⟩
        have h1b : (c % 2 == 1) = true := by simp [h1]
        go_wp2_with fail
        go_ret
        exact HE.out
      · have HE : Hid (REnds w rb 276 tail ((numberL l).map intP) (.returned (.int .i64 (c / 2))) w2) := Or.inl ⟨_, _, by rw [HC.out, if_neg h1]; rfl, rfl, HT.out⟩
        have h1b : (c % 2 == 1) = false := by simp [h1]
        go_wp2_with fail
        go_ret
        exact HE.out
  · go_wp2_with fail
    refine ⟨rfl, Or.inr ⟨?_, rfl, ht⟩⟩
    cases hq : sevensL l with
    | none => unfold numberL; rw [hq]; rfl
    | some x => rw [hq] at hn; cases hn

end Go.Proofs.YthkbeaffkcfgiabGreatDoor

namespace Go.Proofs.YthkbeaffkcfgiabGreatDoor
open Go.RowKit

def numsGoL : Nat → List Int → List UInt8 → Option (List Int × List UInt8)
  | 0, acc, l => some (acc, l)
  | n + 1, acc, l => match numberL l with
    | none => none
    | some (x, r) => numsGoL n (acc ++ [x]) r
def textBL (l : List UInt8) : Option (List UInt8 × List UInt8) :=
  match countL 0 12 l with
  | none => none
  | some (c, r) => takeL c.toNat r
def listBL (l : List UInt8) : Option (List Int × List UInt8) :=
  match countL 0 4 l with
  | none => none
  | some (c, r) => numsGoL c.toNat [] r
def valueBL (kd n : Nat) (l : List UInt8) : Option (SV × List UInt8) :=
  if kd = 1 then (numberL l).map fun x => (⟨1, x.1, [], []⟩, x.2)
  else if kd = 2 then (countL 0 1 l).map fun x => (⟨2, x.1, [], []⟩, x.2)
  else if kd = 3 then (textBL l).map fun x => (⟨3, 0, x.1, []⟩, x.2)
  else if kd = 4 then (countL 0 n l).map fun x => (⟨4, x.1, [], []⟩, x.2)
  else (listBL l).map fun x => (⟨kd, 0, [], x.1⟩, x.2)

set_option maxHeartbeats 3200000 in
set_option maxRecDepth 20000 in
theorem valueB3_any (rb n : Nat) (tail : List Value) (l : List UInt8) (w : World) (hR : RdAt w rb 276 tail l) (hl : l.length ≤ 2 ^ 40) :
    Calls Tryz.prog 270 #[.pointer (some ⟨rb, 0, none⟩), .int .i64 3] w (VEnds w rb 276 tail (valueBL 3 n l)) := by
  have hrb := hR.lt
  obtain ⟨W1, hW1⟩ : ∃ W1, W1 = (w.alloc (.cells #[.int .i64 0, .int .i64 0, .string ⟨#[]⟩, .int .i64 0, .int .i64 0, .slice none 0 0] 56)).alloc (.cells #[.int .i64 3, .int .i64 0, .string ⟨#[]⟩, .int .i64 0, .int .i64 0, .slice none 0 0] 56) := ⟨_, rfl⟩
  have hB1 : Below w.heap.size w W1 := by rw [hW1]; exact below_two _ _ _
  have hs1 : W1.heap.size = w.heap.size + 2 := by rw [hW1]; simp
  have HC : Hid (Calls Tryz.prog 187 #[.pointer (some ⟨rb, 0, none⟩), .int .i64 0, .int .i64 12] W1.drew _) := count_any rb tail 0 12 l W1.drew ((hR.below hB1).keep rfl) hl
  have HVa : Hid (valueBL 3 n l = (textBL l).map fun x => (⟨3, 0, x.1, []⟩, x.2)) := rfl
  rw [hW1] at HC
  clear hR
  go_enter Tryz.func270, Tryz.ntmps270
  go_wp2_with fail
  go_region_dies
  all_goals refine Calls.mono HC.out ?_
  all_goals rw [← hW1]
  all_goals rintro e w2 (⟨v, l3, hv, rfl, ht3⟩ | ⟨hn, rfl, ht3⟩)
  · obtain ⟨c, r, hd⟩ : ∃ c r, countL 0 12 l = some (c, r) := by
      cases hd : countL 0 12 l with
      | none => rw [hd] at hv; cases hv
      | some x => exact ⟨x.1, x.2, rfl⟩
    rw [hd] at hv
    simp [intP] at hv
    obtain ⟨rfl, rfl⟩ := hv
    obtain ⟨hc0, _, hc12, hrl⟩ := countL_range hd
    obtain ⟨cn, rfl⟩ : ∃ cn : Nat, c = (cn : Int) := ⟨c.toNat, by omega⟩
    have HTx : Hid (textBL l = takeL cn r) := by show _ = _; unfold textBL; rw [hd]; simp
    have HTk : Hid (Calls Tryz.prog 287 #[.pointer (some ⟨rb, 0, none⟩), .int .i64 cn] w2 (REnds w2 rb 276 tail ((takeL cn r).map strP))) := take_any rb 276 tail r cn w2 ht3.rest (by omega) (by omega)
    have ht0 : Turns W1 w2 (fun k => k = rb) := ⟨ht3.turns.os, ht3.turns.tape, ht3.turns.output, ht3.turns.size, ht3.turns.block⟩
    have HT2 : Hid (Turns W1 w2 (fun k => k = rb)) := ht0
    have hb1 : w2.heap[w.heap.size]? = some (.cells #[.int .i64 0, .int .i64 0, .string ⟨#[]⟩, .int .i64 0, .int .i64 0, .slice none 0 0] 56 (0, 0)) := by
      rw [ht0.block _ (by omega) (by omega), hW1, Below.heap_alloc _ _ _ (by simp)]; exact heap_alloc_at rfl _
    have hb2 : w2.heap[w.heap.size + 1]? = some (.cells #[.int .i64 3, .int .i64 0, .string ⟨#[]⟩, .int .i64 0, .int .i64 0, .slice none 0 0] 56 (0, 0)) := by
      rw [ht0.block _ (by omega) (by omega), hW1]; exact heap_alloc_at (by simp) _
    have hs2 : W1.heap.size ≤ w2.heap.size := ht0.size
    have HB1 : Hid (w2.heap[w.heap.size]? = some (.cells #[.int .i64 0, .int .i64 0, .string ⟨#[]⟩, .int .i64 0, .int .i64 0, .slice none 0 0] 56 (0, 0))) := hb1
    have HB2 : Hid (w2.heap[w.heap.size + 1]? = some (.cells #[.int .i64 3, .int .i64 0, .string ⟨#[]⟩, .int .i64 0, .int .i64 0, .slice none 0 0] 56 (0, 0))) := hb2
    have HBe : Hid (Below w.heap.size w W1) := hB1
    clear ht3 hd hb1 hb2 ht0 hB1 hW1 HC
    go_wp2_with fail
    refine wpAny_ready (rs := [5]) (by kernel_rfl) (by simp) ?_
    refine AllReady.cons rfl (fun K hK => ?_) AllReady.nil
    go_simp
    refine Calls.mono HTk.out ?_
    rintro e w3 (⟨v, l4, hv, rfl, ht4⟩ | ⟨hn, rfl, ht4⟩)
    · obtain ⟨a, r4, hd⟩ : ∃ a r4, takeL cn r = some (a, r4) := by
        cases hd : takeL cn r with
        | none => rw [hd] at hv; cases hv
        | some x => exact ⟨x.1, x.2, rfl⟩
      rw [hd] at hv
      simp [strP] at hv
      obtain ⟨rfl, rfl⟩ := hv
      have HV : Hid (valueBL 3 n l = some (⟨3, 0, a, []⟩, r4)) := by show _ = _; rw [HVa.out, HTx.out, hd]; rfl
      obtain ⟨p0, p1, p2, p3, p4, p5, f0, f1, f2, f3, f4, f5⟩ := row6 ((ht4.turns.block _ (by omega) (by omega)).trans HB1.out)
      obtain ⟨q0, q1, q2, q3, q4, q5, g0, g1, g2, g3, g4, g5⟩ := row6 ((ht4.turns.block _ (by omega) (by omega)).trans HB2.out)
      have HT : Hid (Rd w w3 rb 276 tail r4) := ⟨ht4.rest, (Turns.ofBelow _ HBe.out).trans' (HT2.out.trans' ht4.turns)⟩
      clear ht4 hd
      go_wp2_with fail
      refine wpAny_ready (rs := [6]) (by kernel_rfl) (by simp) ?_
      refine AllReady.cons rfl (fun K hK => ?_) AllReady.nil
      go_simp
      refine hK _ _ ?_
      clear hK K
      refine wpAny_ready (rs := [7]) (by kernel_rfl) (by simp) ?_
      refine AllReady.cons rfl (fun K hK => ?_) AllReady.nil
      go_simp
      refine hK _ _ ?_
      clear hK K
      refine wpAny_done (by kernel_rfl) ?_ _
      go_wp2_with fail
      refine bodyPost_ret (v := .agg (svCells ⟨3, 0, a, []⟩ (.slice none 0 0)).toArray) ?_ rfl (Or.inl ⟨_, r4, _, HV.out, rfl, ?_, World.ownsRow_nil _ _ _ _⟩)
      · simp [results, Tryz.results270, go_sem, p0, p1, p2, p3, p4, p5, svCells]
      · repeat (refine Rd.set ?_ _ _ _ (by omega) hrb)
        exact HT.out
    · have hnn : takeL cn r = none := by
        cases hd : takeL cn r with
        | none => rfl
        | some x => rw [hd] at hn; cases hn
      exact ⟨rfl, Or.inr ⟨by rw [HVa.out, HTx.out, hnn]; rfl, rfl, (Turns.ofBelow _ HBe.out).trans' (HT2.out.trans' ht4)⟩⟩
  · have hnn : countL 0 12 l = none := by
      cases hd : countL 0 12 l with
      | none => rfl
      | some x => rw [hd] at hn; cases hn
    have ht0 : Turns W1 w2 (fun k => k = rb) := ⟨ht3.os, ht3.tape, ht3.output, ht3.size, ht3.block⟩
    exact ⟨rfl, Or.inr ⟨by rw [HVa.out]; unfold textBL; rw [hnn]; rfl, rfl, (Turns.ofBelow _ hB1).trans' ht0⟩⟩

end Go.Proofs.YthkbeaffkcfgiabGreatDoor

namespace Go.Proofs.YthkbeaffkcfgiabGreatDoor
open Go.RowKit

set_option maxHeartbeats 3200000 in
set_option maxRecDepth 20000 in
theorem valueB1_any (rb m : Nat) (tail : List Value) (l : List UInt8) (w : World) (hR : RdAt w rb 276 tail l) (hl : l.length ≤ 2 ^ 40) :
    Calls Tryz.prog 270 #[.pointer (some ⟨rb, 0, none⟩), .int .i64 1] w (VEnds w rb 276 tail (valueBL 1 m l)) := by
  have hrb := hR.lt
  obtain ⟨W1, hW1⟩ : ∃ W1, W1 = (w.alloc (.cells #[.int .i64 0, .int .i64 0, .string ⟨#[]⟩, .int .i64 0, .int .i64 0, .slice none 0 0] 56)).alloc (.cells #[.int .i64 1, .int .i64 0, .string ⟨#[]⟩, .int .i64 0, .int .i64 0, .slice none 0 0] 56) := ⟨_, rfl⟩
  have hB1 : Below w.heap.size w W1 := by rw [hW1]; exact below_two _ _ _
  have hs1 : W1.heap.size = w.heap.size + 2 := by rw [hW1]; simp
  have HC : Hid (Calls Tryz.prog 288 #[.pointer (some ⟨rb, 0, none⟩)] W1 _) := number_any rb tail l W1 (hR.below hB1) hl
  have HVa : Hid (valueBL 1 m l = (numberL l).map fun x => (⟨1, x.1, [], []⟩, x.2)) := rfl
  rw [hW1] at HC
  clear hR
  go_enter Tryz.func270, Tryz.ntmps270
  go_wp2_with fail
  refine Calls.mono HC.out ?_
  rw [← hW1]
  rintro e w2 (⟨v, l3, hv, rfl, ht3⟩ | ⟨hn, rfl, ht3⟩)
  · obtain ⟨n, r, hd⟩ : ∃ n r, numberL l = some (n, r) := by
      cases hd : numberL l with
      | none => rw [hd] at hv; cases hv
      | some x => exact ⟨x.1, x.2, rfl⟩
    have HV : Hid (valueBL 1 m l = some (⟨1, n, [], []⟩, r)) := by show _ = _; rw [HVa.out, hd]; rfl
    rw [hd] at hv
    simp [intP] at hv
    obtain ⟨rfl, rfl⟩ := hv
    have hb1 : w2.heap[w.heap.size]? = some (.cells #[.int .i64 0, .int .i64 0, .string ⟨#[]⟩, .int .i64 0, .int .i64 0, .slice none 0 0] 56 (0, 0)) := by
      rw [ht3.turns.block _ (by omega) (by omega), hW1, Below.heap_alloc _ _ _ (by simp)]; exact heap_alloc_at rfl _
    have hb2 : w2.heap[w.heap.size + 1]? = some (.cells #[.int .i64 1, .int .i64 0, .string ⟨#[]⟩, .int .i64 0, .int .i64 0, .slice none 0 0] 56 (0, 0)) := by
      rw [ht3.turns.block _ (by omega) (by omega), hW1]; exact heap_alloc_at (by simp) _
    obtain ⟨p0, p1, p2, p3, p4, p5, f0, f1, f2, f3, f4, f5⟩ := row6 hb1
    obtain ⟨q0, q1, q2, q3, q4, q5, g0, g1, g2, g3, g4, g5⟩ := row6 hb2
    clear hb1 hb2
    have HT : Hid (Rd w w2 rb 276 tail r) := ⟨ht3.rest, (Turns.ofBelow _ hB1).trans' ht3.turns⟩
    clear ht3 hd
    go_wp2_with fail
    refine bodyPost_ret (v := .agg (svCells ⟨1, n, [], []⟩ (.slice none 0 0)).toArray) ?_ rfl (Or.inl ⟨_, r, _, HV.out, rfl, ?_, World.ownsRow_nil _ _ _ _⟩)
    · simp [results, Tryz.results270, go_sem, p0, p1, p2, p3, p4, p5, svCells, mk]
    · repeat (refine Rd.set ?_ _ _ _ (by omega) hrb)
      exact HT.out
  · go_wp2_with fail
    refine ⟨rfl, Or.inr ⟨?_, rfl, (Turns.ofBelow _ hB1).trans' ht3⟩⟩
    cases hd : numberL l with
    | none => rw [HVa.out, hd]; rfl
    | some x => rw [hd] at hn; cases hn

set_option maxHeartbeats 3200000 in
set_option maxRecDepth 20000 in
theorem valueB2_any (rb m : Nat) (tail : List Value) (l : List UInt8) (w : World) (hR : RdAt w rb 276 tail l) (hl : l.length ≤ 2 ^ 40) :
    Calls Tryz.prog 270 #[.pointer (some ⟨rb, 0, none⟩), .int .i64 2] w (VEnds w rb 276 tail (valueBL 2 m l)) := by
  have hrb := hR.lt
  obtain ⟨W1, hW1⟩ : ∃ W1, W1 = (w.alloc (.cells #[.int .i64 0, .int .i64 0, .string ⟨#[]⟩, .int .i64 0, .int .i64 0, .slice none 0 0] 56)).alloc (.cells #[.int .i64 2, .int .i64 0, .string ⟨#[]⟩, .int .i64 0, .int .i64 0, .slice none 0 0] 56) := ⟨_, rfl⟩
  have hB1 : Below w.heap.size w W1 := by rw [hW1]; exact below_two _ _ _
  have hs1 : W1.heap.size = w.heap.size + 2 := by rw [hW1]; simp
  have HC : Hid (Calls Tryz.prog 187 #[.pointer (some ⟨rb, 0, none⟩), .int .i64 0, .int .i64 1] W1 _) := count_any rb tail 0 1 l W1 (hR.below hB1) hl
  have HVa : Hid (valueBL 2 m l = (countL 0 1 l).map fun x => (⟨2, x.1, [], []⟩, x.2)) := rfl
  rw [hW1] at HC
  clear hR
  go_enter Tryz.func270, Tryz.ntmps270
  go_wp2_with fail
  refine Calls.mono HC.out ?_
  rw [← hW1]
  rintro e w2 (⟨v, l3, hv, rfl, ht3⟩ | ⟨hn, rfl, ht3⟩)
  · obtain ⟨n, r, hd⟩ : ∃ n r, countL 0 1 l = some (n, r) := by
      cases hd : countL 0 1 l with
      | none => rw [hd] at hv; cases hv
      | some x => exact ⟨x.1, x.2, rfl⟩
    have HV : Hid (valueBL 2 m l = some (⟨2, n, [], []⟩, r)) := by show _ = _; rw [HVa.out, hd]; rfl
    rw [hd] at hv
    simp [intP] at hv
    obtain ⟨rfl, rfl⟩ := hv
    have hb1 : w2.heap[w.heap.size]? = some (.cells #[.int .i64 0, .int .i64 0, .string ⟨#[]⟩, .int .i64 0, .int .i64 0, .slice none 0 0] 56 (0, 0)) := by
      rw [ht3.turns.block _ (by omega) (by omega), hW1, Below.heap_alloc _ _ _ (by simp)]; exact heap_alloc_at rfl _
    have hb2 : w2.heap[w.heap.size + 1]? = some (.cells #[.int .i64 2, .int .i64 0, .string ⟨#[]⟩, .int .i64 0, .int .i64 0, .slice none 0 0] 56 (0, 0)) := by
      rw [ht3.turns.block _ (by omega) (by omega), hW1]; exact heap_alloc_at (by simp) _
    obtain ⟨p0, p1, p2, p3, p4, p5, f0, f1, f2, f3, f4, f5⟩ := row6 hb1
    obtain ⟨q0, q1, q2, q3, q4, q5, g0, g1, g2, g3, g4, g5⟩ := row6 hb2
    clear hb1 hb2
    have HT : Hid (Rd w w2 rb 276 tail r) := ⟨ht3.rest, (Turns.ofBelow _ hB1).trans' ht3.turns⟩
    clear ht3 hd
    go_wp2_with fail
    refine bodyPost_ret (v := .agg (svCells ⟨2, n, [], []⟩ (.slice none 0 0)).toArray) ?_ rfl (Or.inl ⟨_, r, _, HV.out, rfl, ?_, World.ownsRow_nil _ _ _ _⟩)
    · simp [results, Tryz.results270, go_sem, p0, p1, p2, p3, p4, p5, svCells, mk]
    · repeat (refine Rd.set ?_ _ _ _ (by omega) hrb)
      exact HT.out
  · go_wp2_with fail
    refine ⟨rfl, Or.inr ⟨?_, rfl, (Turns.ofBelow _ hB1).trans' ht3⟩⟩
    cases hd : countL 0 1 l with
    | none => rw [HVa.out, hd]; rfl
    | some x => rw [hd] at hn; cases hn

set_option maxHeartbeats 3200000 in
set_option maxRecDepth 20000 in
theorem valueB4_any (rb m : Nat) (tail : List Value) (l : List UInt8) (w : World) (hR : RdAt w rb 276 tail l) (hl : l.length ≤ 2 ^ 40) (sa : Option Addr) (vc : Nat) (hsc : w.cell? ⟨rb, 1, none⟩ = some (.slice sa m vc)) :
    Calls Tryz.prog 270 #[.pointer (some ⟨rb, 0, none⟩), .int .i64 4] w (VEnds w rb 276 tail (valueBL 4 m l)) := by
  have hrb := hR.lt
  obtain ⟨W1, hW1⟩ : ∃ W1, W1 = (w.alloc (.cells #[.int .i64 0, .int .i64 0, .string ⟨#[]⟩, .int .i64 0, .int .i64 0, .slice none 0 0] 56)).alloc (.cells #[.int .i64 4, .int .i64 0, .string ⟨#[]⟩, .int .i64 0, .int .i64 0, .slice none 0 0] 56) := ⟨_, rfl⟩
  have hB1 : Below w.heap.size w W1 := by rw [hW1]; exact below_two _ _ _
  have hs1 : W1.heap.size = w.heap.size + 2 := by rw [hW1]; simp
  have hn1 : rb ≠ w.heap.size := by omega
  have hn2 : rb ≠ w.heap.size + 1 := by omega
  have HC : Hid (Calls Tryz.prog 187 #[.pointer (some ⟨rb, 0, none⟩), .int .i64 0, .int .i64 m] W1 _) := count_any rb tail 0 m l W1 (hR.below hB1) hl
  have HVa : Hid (valueBL 4 m l = (countL 0 m l).map fun x => (⟨4, x.1, [], []⟩, x.2)) := rfl
  rw [hW1] at HC
  clear hR
  go_enter Tryz.func270, Tryz.ntmps270
  go_wp2_with fail
  refine Calls.mono HC.out ?_
  rw [← hW1]
  rintro e w2 (⟨v, l3, hv, rfl, ht3⟩ | ⟨hn, rfl, ht3⟩)
  · obtain ⟨n, r, hd⟩ : ∃ n r, countL 0 m l = some (n, r) := by
      cases hd : countL 0 m l with
      | none => rw [hd] at hv; cases hv
      | some x => exact ⟨x.1, x.2, rfl⟩
    have HV : Hid (valueBL 4 m l = some (⟨4, n, [], []⟩, r)) := by show _ = _; rw [HVa.out, hd]; rfl
    rw [hd] at hv
    simp [intP] at hv
    obtain ⟨rfl, rfl⟩ := hv
    have hb1 : w2.heap[w.heap.size]? = some (.cells #[.int .i64 0, .int .i64 0, .string ⟨#[]⟩, .int .i64 0, .int .i64 0, .slice none 0 0] 56 (0, 0)) := by
      rw [ht3.turns.block _ (by omega) (by omega), hW1, Below.heap_alloc _ _ _ (by simp)]; exact heap_alloc_at rfl _
    have hb2 : w2.heap[w.heap.size + 1]? = some (.cells #[.int .i64 4, .int .i64 0, .string ⟨#[]⟩, .int .i64 0, .int .i64 0, .slice none 0 0] 56 (0, 0)) := by
      rw [ht3.turns.block _ (by omega) (by omega), hW1]; exact heap_alloc_at (by simp) _
    obtain ⟨p0, p1, p2, p3, p4, p5, f0, f1, f2, f3, f4, f5⟩ := row6 hb1
    obtain ⟨q0, q1, q2, q3, q4, q5, g0, g1, g2, g3, g4, g5⟩ := row6 hb2
    clear hb1 hb2
    have HT : Hid (Rd w w2 rb 276 tail r) := ⟨ht3.rest, (Turns.ofBelow _ hB1).trans' ht3.turns⟩
    clear ht3 hd
    go_wp2_with fail
    refine bodyPost_ret (v := .agg (svCells ⟨4, n, [], []⟩ (.slice none 0 0)).toArray) ?_ rfl (Or.inl ⟨_, r, _, HV.out, rfl, ?_, World.ownsRow_nil _ _ _ _⟩)
    · simp [results, Tryz.results270, go_sem, p0, p1, p2, p3, p4, p5, svCells, mk]
    · repeat (refine Rd.set ?_ _ _ _ (by omega) hrb)
      exact HT.out
  · go_wp2_with fail
    refine ⟨rfl, Or.inr ⟨?_, rfl, (Turns.ofBelow _ hB1).trans' ht3⟩⟩
    cases hd : countL 0 m l with
    | none => rw [HVa.out, hd]; rfl
    | some x => rw [hd] at hn; cases hn

end Go.Proofs.YthkbeaffkcfgiabGreatDoor
