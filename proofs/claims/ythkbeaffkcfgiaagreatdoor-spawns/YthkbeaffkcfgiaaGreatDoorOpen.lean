import Derived.Test.YthkbeaffkcfgiaaGreatDoorHand
import Derived.Deep.Slices
import Derived.SizedLaws
namespace Go.Proofs.YthkbeaffkcfgiaaGreatDoor
open Go.ChangeShapes Go.WideShapes Go.RowKit

/-- What the form's reach says of a step. -/
structure Sized (o : OpV) : Prop where
  s : o.s.length ≤ 2 ^ 50
  t : o.t.length ≤ 2 ^ 50
  l : o.ln ≤ 2 ^ 50

theorem mem_weightsAll {H : Type} {P : Program} {e : TypeId} {d : DataW H} {n : Nat} (hn : n ∈ d.weights P e) : ∀ {l : List (DataW H)}, d ∈ l → n ∈ DataW.weightsAll P e l
  | x :: l, h => by
    simp only [DataW.weightsAll, List.mem_append]
    rcases List.mem_cons.1 h with rfl | h
    · exact Or.inl hn
    · exact Or.inr (mem_weightsAll hn h)

section
variable {H : Type} {enc : TypeId × Value → H} {W : World} {spare : Nat → Bool} {held : Bool}

theorem int_part {n : Nat} {c : Value} {x : DataW H × List MemPlace} (h : DataW.trod enc Tryz.prog W 0 spare held n 3 [c] = some x) : ∃ z : Int, c = .int .i64 z ∧ -9223372036854775808 ≤ z ∧ z ≤ 9223372036854775807 := by
  obtain ⟨z, h1, _, h3⟩ := DataW.trod_int Tryz.underlying3 h
  refine ⟨z, by simpa using h1, ?_⟩
  have h4 : (decide ((-9223372036854775808 : Int) ≤ z) && decide (z ≤ 9223372036854775807)) = true := h3
  simpa using h4

theorem text_part {n : Nat} {c : Value} {x : DataW H × List MemPlace} (h : DataW.trod enc Tryz.prog W 0 spare held n 9 [c] = some x) : ∃ z : List UInt8, c = .string (mk z) ∧ x.1 = .lit (.string z) := by
  obtain ⟨z, h1, h2, _⟩ := DataW.trod_string Tryz.underlying9 h
  refine ⟨z.data.toList, ?_, by rw [h2]⟩
  simp at h1
  rw [h1]
  simp [mk]

theorem list_part {n : Nat} {c : Value} {x : DataW H × List MemPlace} (h : DataW.trod enc Tryz.prog W 0 spare held n 25 [c] = some x) : ∃ a l k, c = .slice a l k ∧ (l = 0 ∨ ∃ e r, x.1 = .slice e r ∧ e.length = l) := by
  rcases DataW.trod_slice Tryz.underlying25 h with ⟨h1, h2⟩ | ⟨a, len, cap, elems, rest, n', _, h1, h2, _, _, _, h3, _⟩
  · exact ⟨none, 0, 0, by simpa using h1, Or.inl rfl⟩
  · exact ⟨some a, len, cap, by simpa using h1, Or.inr ⟨_, _, by rw [h2], by simpa using h3⟩⟩

theorem eight {cs : List Value} (h : cs.length = 8) : ∃ a b c d e f g i, cs = [a, b, c, d, e, f, g, i] := by
  match cs, h with
  | [a, b, c, d, e, f, g, i], _ => exact ⟨a, b, c, d, e, f, g, i, rfl⟩

theorem cells27 : Tryz.prog.cellsOf 27 = 8 := by kernel_rfl
theorem cells3 : Tryz.prog.cellsOf 3 = 1 := by kernel_rfl
theorem cells9 : Tryz.prog.cellsOf 9 = 1 := by kernel_rfl
theorem cells25 : Tryz.prog.cellsOf 25 = 1 := by kernel_rfl
theorem bytes3 : Tryz.prog.bytesOf 3 = 8 := by kernel_rfl
theorem bytes27 : Tryz.prog.bytesOf 27 = 96 := by kernel_rfl

theorem step_read {fuel : Nat} {cs : List Value} {x : DataW H × List MemPlace} (h : DataW.trod enc Tryz.prog W 0 spare held fuel 27 cs = some x) (hw : ∀ n ∈ x.1.weights Tryz.prog 27, n ≤ reachBytes) :
    ∃ o : OpV, cs = (opVals o).toList ∧ InRange o ∧ Sized o := by
  obtain ⟨xs, n, _, hx, hl, hxl, hf⟩ := DataW.trod_struct Tryz.underlying27 h
  rw [cells27] at hl
  obtain ⟨c0, c1, c2, c3, c4, c5, c6, c7, rfl⟩ := eight hl
  have hxl8 : xs.length = 8 := hxl
  have get : ∀ i, i < 8 → ∃ y, xs[i]? = some y := fun i hi => ⟨xs[i]'(by omega), List.getElem?_eq_getElem _⟩
  have f0 : DataW.trod enc Tryz.prog W 0 spare held n 3 (([c0, c1, c2, c3, c4, c5, c6, c7].drop 0).take (Tryz.prog.cellsOf 3)) = xs[0]? := hf 0 _ rfl
  have f1 : DataW.trod enc Tryz.prog W 0 spare held n 3 (([c0, c1, c2, c3, c4, c5, c6, c7].drop 1).take (Tryz.prog.cellsOf 3)) = xs[1]? := hf 1 _ rfl
  have f2 : DataW.trod enc Tryz.prog W 0 spare held n 3 (([c0, c1, c2, c3, c4, c5, c6, c7].drop 2).take (Tryz.prog.cellsOf 3)) = xs[2]? := hf 2 _ rfl
  have f3 : DataW.trod enc Tryz.prog W 0 spare held n 3 (([c0, c1, c2, c3, c4, c5, c6, c7].drop 3).take (Tryz.prog.cellsOf 3)) = xs[3]? := hf 3 _ rfl
  have f4 : DataW.trod enc Tryz.prog W 0 spare held n 3 (([c0, c1, c2, c3, c4, c5, c6, c7].drop 4).take (Tryz.prog.cellsOf 3)) = xs[4]? := hf 4 _ rfl
  have f5 : DataW.trod enc Tryz.prog W 0 spare held n 9 (([c0, c1, c2, c3, c4, c5, c6, c7].drop 5).take (Tryz.prog.cellsOf 9)) = xs[5]? := hf 5 _ rfl
  have f6 : DataW.trod enc Tryz.prog W 0 spare held n 9 (([c0, c1, c2, c3, c4, c5, c6, c7].drop 6).take (Tryz.prog.cellsOf 9)) = xs[6]? := hf 6 _ rfl
  have f7 : DataW.trod enc Tryz.prog W 0 spare held n 25 (([c0, c1, c2, c3, c4, c5, c6, c7].drop 7).take (Tryz.prog.cellsOf 25)) = xs[7]? := hf 7 _ rfl
  rw [cells3] at f0 f1 f2 f3 f4
  rw [cells9] at f5 f6
  rw [cells25] at f7
  simp only [List.drop_zero, List.drop_succ_cons, List.take_succ_cons, List.take_zero] at f0 f1 f2 f3 f4 f5 f6 f7
  obtain ⟨y0, g0⟩ := get 0 (by omega)
  obtain ⟨y1, g1⟩ := get 1 (by omega)
  obtain ⟨y2, g2⟩ := get 2 (by omega)
  obtain ⟨y3, g3⟩ := get 3 (by omega)
  obtain ⟨y4, g4⟩ := get 4 (by omega)
  obtain ⟨y5, g5⟩ := get 5 (by omega)
  obtain ⟨y6, g6⟩ := get 6 (by omega)
  obtain ⟨y7, g7⟩ := get 7 (by omega)
  rw [g0] at f0
  rw [g1] at f1
  rw [g2] at f2
  rw [g3] at f3
  rw [g4] at f4
  rw [g5] at f5
  rw [g6] at f6
  rw [g7] at f7
  obtain ⟨z0, rfl, _, _⟩ := int_part f0
  obtain ⟨z1, rfl, a1, a2⟩ := int_part f1
  obtain ⟨z2, rfl, b1, b2⟩ := int_part f2
  obtain ⟨z3, rfl, _, _⟩ := int_part f3
  obtain ⟨z4, rfl, _, _⟩ := int_part f4
  obtain ⟨z5, rfl, e5⟩ := text_part f5
  obtain ⟨z6, rfl, e6⟩ := text_part f6
  obtain ⟨la, ln, lc, rfl, e7⟩ := list_part f7
  have hwx : ∀ (j : Nat) (t : TypeId) (d : DataW H), ([3, 3, 3, 3, 3, 9, 9, 25] : List TypeId)[j]? = some t → (xs.map (·.1))[j]? = some d → ∀ n ∈ d.weights Tryz.prog t, n ≤ reachBytes := fun j t d ht hd n hn => by
    refine hw n ?_
    rw [hx]
    simp only [DataW.weights, Tryz.underlying27]
    exact DataW.weights_mem_each (j := j) ht hd n hn
  have hr : reachBytes < 2 ^ 47 := reachBytes_lt
  refine ⟨⟨z0, z1, z2, z3, z4, z5, z6, la, ln, lc⟩, rfl, ⟨a1, a2, b1, b2⟩, ?_, ?_, ?_⟩
  · have := hwx 5 9 y5.1 rfl (by rw [List.getElem?_map, g5]; rfl) z5.length (by rw [e5]; simp [DataW.weights])
    show z5.length ≤ 2 ^ 50
    omega
  · have := hwx 6 9 y6.1 rfl (by rw [List.getElem?_map, g6]; rfl) z6.length (by rw [e6]; simp [DataW.weights])
    show z6.length ≤ 2 ^ 50
    omega
  · show ln ≤ 2 ^ 50
    rcases e7 with rfl | ⟨e, r, e7, rfl⟩
    · omega
    · have := hwx 7 25 y7.1 rfl (by rw [List.getElem?_map, g7]; rfl) ((e.length + r.length) * 8) (by rw [e7]; simp [DataW.weights, Tryz.underlying25, bytes3])
      omega

theorem opAt_of {A : Addr} {o : OpV} (h : ∀ i, i < 8 → W.cell? (A.add i) = (opVals o).toList[i]?) : OpAt W A o := by
  have h0 := h 0 (by omega)
  have h1 := h 1 (by omega)
  have h2 := h 2 (by omega)
  have h3 := h 3 (by omega)
  have h4 := h 4 (by omega)
  have h5 := h 5 (by omega)
  have h6 := h 6 (by omega)
  have h7 := h 7 (by omega)
  exact ⟨h0, h1, h2, h3, h4, h5, h6, h7⟩

/-- A script that was handed in. -/
theorem script_read {v : Value} {d : DataW H} {ps : List MemPlace} (h : DataW.Trod enc Tryz.prog W 0 spare held 22 v d ps) (hv : ∃ a l k, v = .slice a l k) (hw : ∀ n ∈ d.weights Tryz.prog 22, n ≤ reachBytes) :
    v = .slice none 0 0 ∨ ∃ ad ops cap, v = .slice (some ad) (List.length ops) cap ∧ Script W ad ops ∧ ops.length ≤ cap ∧ ops.length ≤ 2 ^ 50 ∧ (∀ o ∈ ops, o.s.length ≤ 2 ^ 50 ∧ o.t.length ≤ 2 ^ 50 ∧ o.ln ≤ 2 ^ 50) ∧ ∀ o ∈ ops, InRange o := by
  obtain ⟨va, vl, vk, rfl⟩ := hv
  obtain ⟨fuel, h⟩ := h
  rcases Go.Deep.open_slice Tryz.underlying22 h with ⟨h1, _⟩ | ⟨a, len, cap, m, n, D, Pl, h1, _, hlc, _, hm, hx, he⟩
  · left
    simpa [Value.cells] using h1
  · right
    have hv : Value.slice va vl vk = .slice (some a) len cap := by simpa [Value.cells] using h1
    have hd : d = .slice ((List.range len).map D) ((List.range (m - len)).map fun j => D (len + j)) := congrArg Prod.fst hx
    have hlm : len ≤ m := by rw [hm]; split <;> omega
    rw [cells27] at he
    have hweach : ∀ i, i < len → ∀ n ∈ (D i).weights Tryz.prog 27, n ≤ reachBytes := fun i hi n hn => by
      refine hw n ?_
      rw [hd]
      simp only [DataW.weights, Tryz.underlying22, List.mem_cons, List.mem_append]
      exact Or.inr (Or.inl (mem_weightsAll hn (List.mem_map.2 ⟨i, by simpa using hi, rfl⟩)))
    have hwl : len ≤ 2 ^ 50 := by
      have := hw ((((List.range len).map D).length + ((List.range (m - len)).map fun j => D (len + j)).length) * Tryz.prog.bytesOf 27) (by rw [hd]; simp only [DataW.weights, Tryz.underlying22]; exact List.mem_cons_self ..)
      rw [bytes27] at this
      simp at this
      have hr : reachBytes < 2 ^ 47 := reachBytes_lt
      omega
    obtain ⟨F, hF⟩ := @Go.Deep.choose_lt OpV ⟨⟨0, 0, 0, 0, 0, [], [], none, 0, 0⟩⟩ len (fun i o => OpAt W (a.add (i * 8)) o ∧ InRange o ∧ Sized o) (fun i hi => by
      obtain ⟨cs', h1, h2⟩ := he i (by omega)
      obtain ⟨o, rfl, hr, hz⟩ := step_read h2 (hweach i hi)
      obtain ⟨_, _, h3⟩ := World.cells?_some h1
      exact ⟨o, opAt_of h3, hr, hz⟩)
    have hmem : ∀ o ∈ (List.range len).map F, ∃ i, i < len ∧ o = F i := fun o ho => by
      obtain ⟨i, hi, rfl⟩ := List.mem_map.1 ho
      exact ⟨i, by simpa using hi, rfl⟩
    refine ⟨a, (List.range len).map F, cap, by rw [hv]; simp, ⟨fun hpos => ?_, fun j hj => ?_⟩, by simpa using hlc, by simpa using hwl, fun o ho => ?_, fun o ho => ?_⟩
    · have hlen : 0 < len := by simpa using hpos
      exact World.block_lt_of_cell? _ _ (by have := (hF 0 hlen).1.1; simpa [Addr.add] using this)
    · have hj' : j < len := by simpa using hj
      rw [List.getElem_map, List.getElem_range]
      exact (hF j hj').1
    · obtain ⟨i, hi, rfl⟩ := hmem o ho
      have := (hF i hi).2.2
      exact ⟨this.s, this.t, this.l⟩
    · obtain ⟨i, hi, rfl⟩ := hmem o ho
      exact (hF i hi).2.1
end

end Go.Proofs.YthkbeaffkcfgiaaGreatDoor
