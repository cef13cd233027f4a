import Derived.Test.YtknfcmfnnjgkdabDoorNew
namespace Go.Proofs.YtknfcmfnnjgkdabDoor
open Go.RowKit

def schemaB : ByteArray := ⟨#[112, 111, 115, 32, 120, 58, 105, 110, 116, 32, 121, 58, 105, 110, 116, 10, 110, 97, 109, 101, 32, 115, 58, 116, 101, 120, 116, 10, 108, 105, 110, 107, 32, 116, 111, 58, 114, 101, 102, 32, 110, 101, 120, 116, 58, 114, 101, 102, 10, 102, 108, 97, 103, 32, 111, 110, 58, 98, 111, 111, 108, 10, 98, 97, 103, 32, 108, 58, 108, 105, 115, 116, 10, 109, 97, 114, 107, 10]⟩
def bodyB : ByteArray := ⟨#[112, 111, 115, 32, 120, 58, 105, 110, 116, 32, 121, 58, 105, 110, 116, 10, 110, 97, 109, 101, 32, 115, 58, 116, 101, 120, 116, 10, 108, 105, 110, 107, 32, 116, 111, 58, 114, 101, 102, 32, 110, 101, 120, 116, 58, 114, 101, 102, 10, 102, 108, 97, 103, 32, 111, 110, 58, 98, 111, 111, 108, 10, 98, 97, 103, 32, 108, 58, 108, 105, 115, 116, 10, 109, 97, 114, 107]⟩
def line0 : ByteArray := ⟨#[112, 111, 115, 32, 120, 58, 105, 110, 116, 32, 121, 58, 105, 110, 116]⟩
def comp0 : ByteArray := ⟨#[112, 111, 115]⟩
def word00 : ByteArray := ⟨#[120, 58, 105, 110, 116]⟩
def fname00 : ByteArray := ⟨#[120]⟩
def word01 : ByteArray := ⟨#[121, 58, 105, 110, 116]⟩
def fname01 : ByteArray := ⟨#[121]⟩
def line1 : ByteArray := ⟨#[110, 97, 109, 101, 32, 115, 58, 116, 101, 120, 116]⟩
def comp1 : ByteArray := ⟨#[110, 97, 109, 101]⟩
def word10 : ByteArray := ⟨#[115, 58, 116, 101, 120, 116]⟩
def fname10 : ByteArray := ⟨#[115]⟩
def line2 : ByteArray := ⟨#[108, 105, 110, 107, 32, 116, 111, 58, 114, 101, 102, 32, 110, 101, 120, 116, 58, 114, 101, 102]⟩
def comp2 : ByteArray := ⟨#[108, 105, 110, 107]⟩
def word20 : ByteArray := ⟨#[116, 111, 58, 114, 101, 102]⟩
def fname20 : ByteArray := ⟨#[116, 111]⟩
def word21 : ByteArray := ⟨#[110, 101, 120, 116, 58, 114, 101, 102]⟩
def fname21 : ByteArray := ⟨#[110, 101, 120, 116]⟩
def line3 : ByteArray := ⟨#[102, 108, 97, 103, 32, 111, 110, 58, 98, 111, 111, 108]⟩
def comp3 : ByteArray := ⟨#[102, 108, 97, 103]⟩
def word30 : ByteArray := ⟨#[111, 110, 58, 98, 111, 111, 108]⟩
def fname30 : ByteArray := ⟨#[111, 110]⟩
def line4 : ByteArray := ⟨#[98, 97, 103, 32, 108, 58, 108, 105, 115, 116]⟩
def comp4 : ByteArray := ⟨#[98, 97, 103]⟩
def word40 : ByteArray := ⟨#[108, 58, 108, 105, 115, 116]⟩
def fname40 : ByteArray := ⟨#[108]⟩
def line5 : ByteArray := ⟨#[109, 97, 114, 107]⟩
def comp5 : ByteArray := ⟨#[109, 97, 114, 107]⟩

theorem nameOk_of (s : ByteArray) (h : (decide (1 ≤ s.size) && decide (s.size ≤ 8) && s.data.toList.all fun c => decide (97 ≤ c.toNat) && decide (c.toNat ≤ 122)) = true) : NameOk s := by
  simp only [Bool.and_eq_true, decide_eq_true_eq, List.all_eq_true] at h
  refine ⟨h.1.1, h.1.2, fun i hi => ?_⟩
  have := h.2 s[i] (by
    show s.data[i] ∈ s.data.toList
    exact Array.mem_toList_iff.2 (Array.getElem_mem hi))
  exact this
theorem field00 : FieldOk word00 fname00 1 := ⟨nameOk_of _ (by decide +kernel), by decide +kernel, ⟨#[105, 110, 116]⟩, Or.inl ⟨rfl, rfl⟩, by decide +kernel, by decide +kernel⟩
theorem field01 : FieldOk word01 fname01 1 := ⟨nameOk_of _ (by decide +kernel), by decide +kernel, ⟨#[105, 110, 116]⟩, Or.inl ⟨rfl, rfl⟩, by decide +kernel, by decide +kernel⟩
theorem field10 : FieldOk word10 fname10 3 := ⟨nameOk_of _ (by decide +kernel), by decide +kernel, ⟨#[116, 101, 120, 116]⟩, Or.inr (Or.inr (Or.inl ⟨rfl, rfl⟩)), by decide +kernel, by decide +kernel⟩
theorem field20 : FieldOk word20 fname20 4 := ⟨nameOk_of _ (by decide +kernel), by decide +kernel, ⟨#[114, 101, 102]⟩, Or.inr (Or.inr (Or.inr (Or.inl ⟨rfl, rfl⟩))), by decide +kernel, by decide +kernel⟩
theorem field21 : FieldOk word21 fname21 4 := ⟨nameOk_of _ (by decide +kernel), by decide +kernel, ⟨#[114, 101, 102]⟩, Or.inr (Or.inr (Or.inr (Or.inl ⟨rfl, rfl⟩))), by decide +kernel, by decide +kernel⟩
theorem field30 : FieldOk word30 fname30 2 := ⟨nameOk_of _ (by decide +kernel), by decide +kernel, ⟨#[98, 111, 111, 108]⟩, Or.inr (Or.inl ⟨rfl, rfl⟩), by decide +kernel, by decide +kernel⟩
theorem field40 : FieldOk word40 fname40 5 := ⟨nameOk_of _ (by decide +kernel), by decide +kernel, ⟨#[108, 105, 115, 116]⟩, Or.inr (Or.inr (Or.inr (Or.inr ⟨rfl, rfl⟩))), by decide +kernel, by decide +kernel⟩
theorem compOk0 : CompOk line0 comp0 [word00, word01] [(fname00, 1), (fname01, 1)] := {
  name := nameOk_of _ (by decide +kernel)
  notE := by decide +kernel
  small := by decide +kernel
  len := rfl
  few := by decide
  fields := fun j h h' => by
    match j, h with
    | 0, _ => exact field00
    | 1, _ => exact field01
    | j + 2, h => exact absurd h (by simp)
  apart := fun i j hi hj h => by
    have h1 : i = 0 := by simp at hi hj; omega
    have h2 : j = 1 := by simp at hi hj; omega
    subst h1; subst h2
    show (fname00.toList == fname01.toList) = false
    decide +kernel
  count := by decide +kernel
  split := by decide +kernel }
theorem compOk1 : CompOk line1 comp1 [word10] [(fname10, 3)] := {
  name := nameOk_of _ (by decide +kernel)
  notE := by decide +kernel
  small := by decide +kernel
  len := rfl
  few := by decide
  fields := fun j h h' => by
    match j, h with
    | 0, _ => exact field10
    | j + 1, h => exact absurd h (by simp)
  apart := fun i j hi hj h => absurd h (by simp at hi hj; omega)
  count := by decide +kernel
  split := by decide +kernel }
theorem compOk2 : CompOk line2 comp2 [word20, word21] [(fname20, 4), (fname21, 4)] := {
  name := nameOk_of _ (by decide +kernel)
  notE := by decide +kernel
  small := by decide +kernel
  len := rfl
  few := by decide
  fields := fun j h h' => by
    match j, h with
    | 0, _ => exact field20
    | 1, _ => exact field21
    | j + 2, h => exact absurd h (by simp)
  apart := fun i j hi hj h => by
    have h1 : i = 0 := by simp at hi hj; omega
    have h2 : j = 1 := by simp at hi hj; omega
    subst h1; subst h2
    show (fname20.toList == fname21.toList) = false
    decide +kernel
  count := by decide +kernel
  split := by decide +kernel }
theorem compOk3 : CompOk line3 comp3 [word30] [(fname30, 2)] := {
  name := nameOk_of _ (by decide +kernel)
  notE := by decide +kernel
  small := by decide +kernel
  len := rfl
  few := by decide
  fields := fun j h h' => by
    match j, h with
    | 0, _ => exact field30
    | j + 1, h => exact absurd h (by simp)
  apart := fun i j hi hj h => absurd h (by simp at hi hj; omega)
  count := by decide +kernel
  split := by decide +kernel }
theorem compOk4 : CompOk line4 comp4 [word40] [(fname40, 5)] := {
  name := nameOk_of _ (by decide +kernel)
  notE := by decide +kernel
  small := by decide +kernel
  len := rfl
  few := by decide
  fields := fun j h h' => by
    match j, h with
    | 0, _ => exact field40
    | j + 1, h => exact absurd h (by simp)
  apart := fun i j hi hj h => absurd h (by simp at hi hj; omega)
  count := by decide +kernel
  split := by decide +kernel }
theorem compOk5 : CompOk line5 comp5 [] [] := {
  name := nameOk_of _ (by decide +kernel)
  notE := by decide +kernel
  small := by decide +kernel
  len := rfl
  few := by decide
  fields := fun j h _ => absurd h (by simp)
  apart := fun i j hi _ _ => absurd hi (by simp)
  count := by decide +kernel
  split := by decide +kernel }

theorem schemaOk : SchemaOk schemaB bodyB [line0, line1, line2, line3, line4, line5] [comp0, comp1, comp2, comp3, comp4, comp5] := {
  small := by decide +kernel
  ended := by decide +kernel
  cutOff := by decide +kernel
  bsmall := by decide +kernel
  count := by decide +kernel
  split := by decide +kernel
  few := by decide
  len := rfl
  comps := fun j h h' => by
    match j, h with
    | 0, _ => exact ⟨_, _, compOk0⟩
    | 1, _ => exact ⟨_, _, compOk1⟩
    | 2, _ => exact ⟨_, _, compOk2⟩
    | 3, _ => exact ⟨_, _, compOk3⟩
    | 4, _ => exact ⟨_, _, compOk4⟩
    | 5, _ => exact ⟨_, _, compOk5⟩
    | j + 6, h => exact absurd h (by simp)
  apart := fun i j hi hj h => by
    have key : ∀ i j : Fin 6, i.val < j.val → ([comp0, comp1, comp2, comp3, comp4, comp5][i].toList == [comp0, comp1, comp2, comp3, comp4, comp5][j].toList) = false := by decide +kernel
    exact key ⟨i, hi⟩ ⟨j, hj⟩ h }

set_option maxHeartbeats 1600000 in
theorem begin_ok (m : Int) (w : World) (hm : w.cell? ⟨0, 0, none⟩ = some (.int .i64 m)) :
    Calls Tryd.prog 4 #[] w fun e w' => ∃ c b, e = .returned (.tuple #[.pointer (some ⟨c, 0, none⟩), .bool true]) ∧ Below w.heap.size w w' ∧ w.heap.size ≤ b ∧ b < c ∧ c < w'.heap.size ∧ w'.cell? ⟨c, 0, none⟩ = some (.pointer (some ⟨b, 0, none⟩)) ∧ PlacesAt w' b (fun _ => 0) (fun _ => false) := by
  have HN : Hid _ := new_ok schemaB bodyB _ _ m w hm schemaOk
  clear hm
  go_enter Tryd.func4, Tryd.ntmps4
  go_wp2_with fail
  refine Calls.mono HN.out ?_
  rintro e w1 ⟨b, rfl, hb, hwb, hp⟩
  have HB : Hid (Below w.heap.size w w1) := hb
  have HP : Hid (PlacesAt w1 b (fun _ => 0) (fun _ => false)) := hp
  clear hb hp
  go_wp2
  go_ret2
  refine ⟨w1.heap.size, b, rfl, HB.out.alloc HB.out.size _, hwb, HP.out.1, by simp, by simp, HP.out.below ((Below.refl _ _).alloc (Nat.le_refl _) _)⟩

end Go.Proofs.YtknfcmfnnjgkdabDoor
