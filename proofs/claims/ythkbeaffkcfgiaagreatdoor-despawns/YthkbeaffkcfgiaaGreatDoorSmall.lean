import Derived.Test.YthkbeaffkcfgiaaGreatDoorSch
namespace Go.Proofs.YthkbeaffkcfgiaaGreatDoor
open Go.RowKit

/-- A step of a script. -/
structure OpV where
  kind : Int
  a : Int
  b : Int
  c : Int
  n : Int
  s : List UInt8
  t : List UInt8
  la : Option Addr
  ln : Nat
  lc : Nat

def opVals (o : OpV) : Array Value := #[.int .i64 o.kind, .int .i64 o.a, .int .i64 o.b, .int .i64 o.c, .int .i64 o.n, .string (mk o.s), .string (mk o.t), .slice o.la o.ln o.lc]

/-- A step, as it lies in memory at A. -/
def OpAt (W : World) (A : Addr) (o : OpV) : Prop :=
  W.cell? A = some (.int .i64 o.kind) ∧ W.cell? ⟨A.block, A.off + 1, none⟩ = some (.int .i64 o.a) ∧ W.cell? ⟨A.block, A.off + 2, none⟩ = some (.int .i64 o.b) ∧ W.cell? ⟨A.block, A.off + 3, none⟩ = some (.int .i64 o.c) ∧
    W.cell? ⟨A.block, A.off + 4, none⟩ = some (.int .i64 o.n) ∧ W.cell? ⟨A.block, A.off + 5, none⟩ = some (.string (mk o.s)) ∧ W.cell? ⟨A.block, A.off + 6, none⟩ = some (.string (mk o.t)) ∧ W.cell? ⟨A.block, A.off + 7, none⟩ = some (.slice o.la o.ln o.lc)

/-- A script, as it lies in memory. -/
structure Script (W : World) (ad : Addr) (ops : List OpV) : Prop where
  lt : 0 < ops.length → ad.block < W.heap.size
  each : ∀ j (h : j < ops.length), OpAt W (ad.add (j * 8)) ops[j]

theorem Script.keep {w wr : World} {ad : Addr} {ops : List OpV} (h : Script w ad ops) (hb : Below w.heap.size w wr) (j : Nat) (hj : j < ops.length) : OpAt wr (ad.add (j * 8)) ops[j] := by
  have had : ad.block < w.heap.size := h.lt (by omega)
  have hadb : ∀ n, (ad.add n).block = ad.block := fun n => by unfold Addr.add; split <;> rfl
  have keep : ∀ p : Addr, p.block = ad.block → wr.cell? p = w.cell? p := fun p hp => hb.cell (by rw [hp]; exact had)
  obtain ⟨c0, c1, c2, c3, c4, c5, c6, c7⟩ := h.each j hj
  exact ⟨(keep _ (hadb _)).trans c0, (keep ⟨(ad.add (j * 8)).block, _, none⟩ (hadb (j * 8))).trans c1, (keep ⟨(ad.add (j * 8)).block, _, none⟩ (hadb (j * 8))).trans c2, (keep ⟨(ad.add (j * 8)).block, _, none⟩ (hadb (j * 8))).trans c3, (keep ⟨(ad.add (j * 8)).block, _, none⟩ (hadb (j * 8))).trans c4, (keep ⟨(ad.add (j * 8)).block, _, none⟩ (hadb (j * 8))).trans c5, (keep ⟨(ad.add (j * 8)).block, _, none⟩ (hadb (j * 8))).trans c6, (keep ⟨(ad.add (j * 8)).block, _, none⟩ (hadb (j * 8))).trans c7⟩

/-- How small ends. -/
def SmallEnds (ops : List OpV) (e : Ending) : Prop := ∃ r : Bool, e = .returned (.bool r) ∧ (r = true → ops.length ≤ 1048576 ∧ ∀ o ∈ ops, o.s.length ≤ 1048576)

set_option maxHeartbeats 1600000 in
theorem small_any (ad : Addr) (ops : List OpV) (cap : Nat) (w : World) (hS : Script w ad ops) (hn : ops.length ≤ cap) (hb : ops.length ≤ 2 ^ 50) (he : ∀ o ∈ ops, o.s.length ≤ 2 ^ 50 ∧ o.t.length ≤ 2 ^ 50 ∧ o.ln ≤ 2 ^ 50) :
    Calls Tryz.prog 15 #[.slice (some ad) ops.length cap] w fun e w' => SmallEnds ops e ∧ Below w.heap.size w w' := by
  have HS : Hid (Script w ad ops) := hS
  have HE : Hid (∀ o ∈ ops, o.s.length ≤ 2 ^ 50 ∧ o.t.length ≤ 2 ^ 50 ∧ o.ln ≤ 2 ^ 50) := he
  obtain ⟨k, hk⟩ : ∃ k, k = ops.length := ⟨_, rfl⟩
  have HK : Hid (k = ops.length) := hk
  have hcap : ops.length ≤ cap := hn
  rw [← hk] at hcap hb
  rw [← hk]
  clear hn
  clear hS he hk
  go_enter Tryz.func15, Tryz.ntmps15
  go_wp2_with fail
  go_loopw [3, 10] (fun v t wr => ∃ (j : Nat) (s : Nat), j ≤ k ∧ t = .int .i64 j ∧ v = .int .i64 s ∧ k ≤ s ∧ (0 < j → s ≤ 1048576) ∧ s ≤ 2 ^ 50 ∧ Below w.heap.size w wr ∧ Hid (∀ q (h : q < ops.length), q < j → ops[q].s.length ≤ 1048576)) (fun _ t _ => k - (intOf t).toNat)
  case atStart => exact ⟨0, k, by omega, rfl, rfl, by omega, by omega, hb, Below.refl _ _, fun q _ h => by omega⟩
  case round =>
    obtain ⟨j, s, hj, rfl, rfl, hks, hs0, hs1, hbw, HQ⟩ := hrel
    have HB : Hid (Below w.heap.size w wr) := hbw
    by_cases hlt : j < k
    · have hjl : j < ops.length := by rw [← HK.out]; exact hlt
      obtain ⟨d0, d1, d2, d3, d4, d5, d6, d7⟩ := HS.out.keep hbw j hjl
      clear hbw
      obtain ⟨e1, e2, e3⟩ := HE.out ops[j] (List.getElem_mem hjl)
      have HQ2 : Hid (ops[j].s.length ≤ 1048576 → ∀ q (h : q < ops.length), q < j + 1 → ops[q].s.length ≤ 1048576) := fun hn q h h' => by
        by_cases e : q = j
        · subst e; exact hn
        · exact HQ.out q h (by omega)
      generalize ops[j] = o at d0 d1 d2 d3 d4 d5 d6 d7 e1 e2 e3 HQ2
      obtain ⟨z1, hz1⟩ : ∃ z, z = o.s.length := ⟨_, rfl⟩
      obtain ⟨z2, hz2⟩ : ∃ z, z = o.t.length := ⟨_, rfl⟩
      have s1 : (mk o.s).size = z1 := (size_mk _).trans hz1.symm
      have s2 : (mk o.t).size = z2 := (size_mk _).trans hz2.symm
      rw [← hz1] at e1 HQ2
      rw [← hz2] at e2
      generalize mk o.s = so at d5 s1
      generalize mk o.t = tx at d6 s2
      clear hz1 hz2
      subst s1 s2
      by_cases hbig : (1048576 : Int) < (s : Int) + ((so.size : Int) + (tx.size : Int) + (o.ln : Int))
      · have hbw : wrap64 ((s : Int) + ((so.size : Int) + (tx.size : Int) + (o.ln : Int))) = (s : Int) + ((so.size : Int) + (tx.size : Int) + (o.ln : Int)) := by simp only [wrap64]; omega
        go_wp2_with fail
        go_ret
        exact ⟨⟨false, rfl, fun h => by cases h⟩, HB.out.alloc HB.out.size _⟩
      · go_wp2_with fail
        go_roundw
        case rel => exact ⟨j + 1, s + (so.size + tx.size + o.ln), by omega, by go_num, by go_num, by omega, by omega, by omega, HB.out.alloc HB.out.size _, HQ2.out (by omega)⟩
        case measure => simp [intOf]; omega
    · by_cases hbig : s ≤ 1048576
      · have hk0 : k ≤ 1048576 := by omega
        have HFin : Hid (∀ o ∈ ops, o.s.length ≤ 1048576) := fun o ho => by
          obtain ⟨q, hq, rfl⟩ := List.getElem_of_mem ho
          exact HQ.out q hq (by have := HK.out; omega)
        have hbi : (s : Int) ≤ 1048576 := by omega
        clear hbw
        go_wp2_with fail
        go_ret
        exact ⟨⟨_, rfl, fun _ => ⟨by rw [← HK.out]; exact hk0, HFin.out⟩⟩, HB.out⟩
      · have hbi : ¬ (s : Int) ≤ 1048576 := by omega
        clear hbw
        go_wp2_with fail
        go_ret
        exact ⟨⟨false, by simp, fun h => by cases h⟩, HB.out⟩

end Go.Proofs.YthkbeaffkcfgiaaGreatDoor
