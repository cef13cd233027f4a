import Derived.Test.YthkbeaffkcfgiabGreatDoorV07
import Derived.Test.YthkbeaffkcfgiabGreatDoorV12
import Derived.Test.YthkbeaffkcfgiabGreatDoorV13
set_option linter.unusedSimpArgs false
set_option linter.unusedVariables false
namespace Go.Proofs.YthkbeaffkcfgiabGreatDoor
open Go.RowKit

/-- Bytes as a text. -/
def mk (l : List UInt8) : ByteArray := ⟨l.toArray⟩
theorem mk_data (s : ByteArray) : mk s.data.toList = s := by cases s; simp [mk]
theorem data_mk (l : List UInt8) : (mk l).data.toList = l := by simp [mk]
theorem toList_mk (l : List UInt8) : (mk l).toList = l := by rw [_root_.Go.ByteArray.toList_eq]; exact data_mk l
theorem mk_inj {a b : List UInt8} (h : mk a = mk b) : a = b := by rw [← data_mk a, h, data_mk]
theorem size_mk (l : List UInt8) : (mk l).size = l.length := by rw [← ByteArray.size_data]; simp [mk]

theorem split_any (b : UInt8) (s : ByteArray) (m : Int) (W : World) (hs : s.size < 500) (hW : W.cell? ⟨3, 0, none⟩ = some (.int .i64 m)) :
    Calls Tryz.prog 194 #[.string s, .string ⟨#[b]⟩] W fun e w' =>
      e = .returned (.slice (some ⟨W.heap.size, 0, none⟩) (cutL b s.data.toList).length (cutL b s.data.toList).length) ∧ w' = W.alloc (.cells ((cutL b s.data.toList).map fun l => Value.string (mk l)).toArray 9) := by
  have := Tryz.strings_Split s ⟨#[b]⟩ m W (by omega) hW (Nat.le_refl 1)
  rw [count_cut b s] at this
  have e : (Lib.splitB ⟨#[b]⟩ 0 (Lib.countB s ⟨#[b]⟩) s).map Value.string = (cutL b s.data.toList).map fun l => Value.string (mk l) := by
    rw [← split_cut b s, List.map_map]
    refine List.map_congr_left fun x _ => ?_
    simp [mk_data]
  rw [e] at this
  exact this

set_option maxHeartbeats 800000 in
theorem readKind_no (s : ByteArray) (w : World) (hk : kindL s.data.toList = 0) : Calls Tryz.prog 279 #[.string s] w fun e w' => e = .panicked wrong ∧ w = w' := by
  have key : ∀ l : List UInt8, kindL l ≠ 0 → (s.toList == l) = false := fun l hl => by
    rw [beq_eq_false_iff_ne]
    intro e
    rw [_root_.Go.ByteArray.toList_eq] at e
    rw [e] at hk
    exact hl hk
  have k1 := key [105, 110, 116] (by decide)
  have k2 := key [98, 111, 111, 108] (by decide)
  have k3 := key [116, 101, 120, 116] (by decide)
  have k4 := key [114, 101, 102] (by decide)
  have k5 := key [108, 105, 115, 116] (by decide)
  clear key hk
  go_enter Tryz.func279, Tryz.ntmps279
  go_wp2
  exact ⟨rfl, rfl, rfl⟩

theorem kindOk_of (l : List UInt8) (h : kindL l ≠ 0) : KindOk (mk l) (kindL l) := by
  unfold kindL at h ⊢
  unfold KindOk
  split
  · left; rename_i e; subst e; exact ⟨rfl, rfl⟩
  · split
    · right; left; rename_i e; subst e; exact ⟨rfl, rfl⟩
    · split
      · right; right; left; rename_i e; subst e; exact ⟨rfl, rfl⟩
      · split
        · right; right; right; left; rename_i e; subst e; exact ⟨rfl, rfl⟩
        · split
          · right; right; right; right; rename_i e; subst e; exact ⟨rfl, rfl⟩
          · rename_i h1 h2 h3 h4 h5
            rw [if_neg h1, if_neg h2, if_neg h3, if_neg h4, if_neg h5] at h
            exact absurd rfl h

set_option maxHeartbeats 800000 in
theorem readField_any (word : List UInt8) (m : Int) (w : World) (hsz : word.length < 500) (hm : w.cell? ⟨3, 0, none⟩ = some (.int .i64 m)) :
    Calls Tryz.prog 247 #[.string (mk word)] w fun e w' => ((∃ f, fieldR word = some f ∧ e = .returned (.agg #[.string (mk f.1), .int .i64 (f.2 : Int)])) ∨ (fieldR word = none ∧ e = .panicked wrong)) ∧ Below w.heap.size w w' := by
  rw [← fieldL_eq]
  have hsz' : (mk word).size < 500 := by rw [size_mk]; exact hsz
  by_cases hn : nameL (Lib.cut word [58]).1 = true
  · by_cases hk : kindL (Lib.cut word [58]).2.1 = 0
    · have hf : fieldL word = none := by unfold fieldL; rw [if_neg (fun h => h.2 hk)]
      have h0 : 3 < w.heap.size := World.block_lt_of_cell? w ⟨3, 0, none⟩ hm
      have HC : Hid (∀ o : Obj, Calls Tryz.prog 278 #[.string (mk word), .string ⟨#[58]⟩] (w.alloc o) fun e w' => e = .returned (.tuple #[.string (mk (Lib.cut word [58]).1), .string (mk (Lib.cut word [58]).2.1), .bool (Lib.cut word [58]).2.2]) ∧ ∃ n, w' = (w.alloc o).drewN n) := fun o => by
        have := Tryz.strings_Cut (mk word) ⟨#[58]⟩ m (w.alloc o) (by omega) ((World.cell?_alloc_lt w o ⟨3, 0, none⟩ h0).trans hm)
        rw [data_mk] at this
        exact this
      have HNm : Hid (NameOk (mk (Lib.cut word [58]).1)) := (nameL_ok _).1 (by rw [data_mk]; exact hn)
      have HKd : Hid (kindL (mk (Lib.cut word [58]).2.1).data.toList = 0) := by show _ = _; rw [data_mk]; exact hk
      have HF : Hid (fieldL word = none) := hf
      clear hf hk hn hm
      generalize mk (Lib.cut word [58]).1 = nm at HC HNm
      generalize mk (Lib.cut word [58]).2.1 = kd at HC HKd
      generalize (Lib.cut word [58]).2.2 = fd at HC
      go_enter Tryz.func247, Tryz.ntmps247
      go_wp2_with fail
      refine Calls.mono (HC.out _) ?_
      rintro e w1 ⟨rfl, n1, rfl⟩
      go_wp2_with fail
      refine (readName_ok nm _ HNm.out).mono ?_
      rintro e w2 ⟨rfl, hb⟩
      have HB : Hid (Below w.heap.size w w2) := (below_drewN ((Below.refl _ _).alloc (Nat.le_refl _) _) _).trans (hb.mono (by simp))
      clear hb
      go_wp2_with fail
      refine (readKind_no kd _ HKd.out).mono ?_
      rintro e w3 ⟨rfl, rfl⟩
      go_wp2_with fail
      exact ⟨rfl, Or.inr ⟨HF.out, rfl⟩, HB.out⟩
    · have hf : fieldL word = some ((Lib.cut word [58]).1, kindL (Lib.cut word [58]).2.1) := by unfold fieldL; rw [if_pos ⟨hn, hk⟩]
      refine (readField_ok (mk word) (mk (Lib.cut word [58]).1) (kindL (Lib.cut word [58]).2.1) m w hm ⟨(nameL_ok _).1 (by rw [data_mk]; exact hn), hsz', mk (Lib.cut word [58]).2.1, kindOk_of _ hk, by rw [data_mk, data_mk], by rw [data_mk, data_mk]⟩).mono fun e w' ⟨he, hb⟩ => ⟨Or.inl ⟨_, hf, he⟩, hb⟩
  · have hf : fieldL word = none := by unfold fieldL; rw [if_neg (fun h => hn h.1)]
    have h0 : 3 < w.heap.size := World.block_lt_of_cell? w ⟨3, 0, none⟩ hm
    have HC : Hid (∀ o : Obj, Calls Tryz.prog 278 #[.string (mk word), .string ⟨#[58]⟩] (w.alloc o) fun e w' => e = .returned (.tuple #[.string (mk (Lib.cut word [58]).1), .string (mk (Lib.cut word [58]).2.1), .bool (Lib.cut word [58]).2.2]) ∧ ∃ n, w' = (w.alloc o).drewN n) := fun o => by
      have := Tryz.strings_Cut (mk word) ⟨#[58]⟩ m (w.alloc o) (by omega) ((World.cell?_alloc_lt w o ⟨3, 0, none⟩ h0).trans hm)
      rw [data_mk] at this
      exact this
    have HNm : Hid (¬ NameOk (mk (Lib.cut word [58]).1)) := fun h => hn (by have := (nameL_ok _).2 h; rw [data_mk] at this; exact this)
    have HZ : Hid ((mk (Lib.cut word [58]).1).size ≤ 1000000000) := by
      show _ ≤ _
      rw [size_mk]
      have : (Lib.cut word [58]).1.length ≤ word.length := by
        unfold Lib.cut
        split
        · simp [List.length_take]; omega
        · simp
      omega
    have HF : Hid (fieldL word = none) := hf
    clear hf hn hm
    generalize mk (Lib.cut word [58]).1 = nm at HC HNm HZ
    generalize mk (Lib.cut word [58]).2.1 = kd at HC
    generalize (Lib.cut word [58]).2.2 = fd at HC
    go_enter Tryz.func247, Tryz.ntmps247
    go_wp2_with fail
    refine Calls.mono (HC.out _) ?_
    rintro e w1 ⟨rfl, n1, rfl⟩
    go_wp2_with fail
    refine (readName_no nm _ HZ.out HNm.out).mono ?_
    rintro e w2 ⟨rfl, rfl⟩
    go_wp2_with fail
    exact ⟨rfl, Or.inr ⟨HF.out, rfl⟩, below_drewN ((Below.refl _ _).alloc (Nat.le_refl _) _) _⟩

end Go.Proofs.YthkbeaffkcfgiabGreatDoor

namespace Go.Proofs.YthkbeaffkcfgiabGreatDoor
open Go.RowKit

theorem Tryz.info135 : (Tryz.prog.info? 135).map (fun i => (i.zero, i.size, i.bytes)) = some (some (.agg #[.string ⟨#[]⟩, .int .i64 0]), 2, 24) := by kernel_rfl

theorem own_succ {W : World} {base : Nat} {e : TypeId} {size : Nat} {v : Value} {k : Nat} {xs : List Value} (h : W.ownsRow base e size v (k + 1) xs) : ∃ g cap, v = .slice (some ⟨g, 0, none⟩) (k + 1) cap := by
  rcases h.2 with ⟨_, h⟩ | ⟨g, cap, cur, h, _⟩
  · omega
  · exact ⟨g, cap, h⟩

/-- Behind an append to the row in the variable at block C: what the round goes on with. -/
theorem row_step {C : Nat} {e : TypeId} {wa w5 w6 : World} {sa : Option Addr} {sn sc k : Nat} {v' c0 : Value} {xs ys : List Value} {o : Obj} (hown5 : w5.ownsRow (C + 1) e 2 (.slice sa sn sc) k xs) (hown6 : w6.ownsRow (C + 1) e 2 v' (k + 1) ys)
    (hg : (w5.alloc o).grownBy w6 (Value.slice sa sn sc).ownBlock) (g0 : w5.cell? ⟨C, 0, none⟩ = some c0) (g1 : w5.cell? ⟨C, 1, none⟩ = some (.slice sa sn sc)) (k0 : w5.frozen? ⟨C, 0, none⟩ = false) (k1 : w5.frozen? ⟨C, 1, none⟩ = false)
    (hs : C < w5.heap.size) (hB : Below C wa w5) :
    ∃ g c, v' = .slice (some ⟨g, 0, none⟩) (k + 1) c ∧ w6.cell? ⟨C, 0, none⟩ = some c0 ∧ w6.cell? ⟨C, 1, none⟩ = some (.slice sa sn sc) ∧ w6.frozen? ⟨C, 0, none⟩ = false ∧ w6.frozen? ⟨C, 1, none⟩ = false ∧ Below C wa w6 ∧ C < w6.heap.size := by
  have hrow : ∀ j, (Value.slice sa sn sc).ownBlock = some j → C + 1 ≤ j := fun j hj => (hown5.lt j hj).1
  have hblk : w6.heap[C]? = w5.heap[C]? := by
    rw [hg.block C (by simp; omega) (fun h => by have := hrow C h.symm; omega), Below.heap_alloc _ _ _ hs]
  obtain ⟨g, c, hv⟩ := own_succ hown6
  refine ⟨g, c, hv, ?_, ?_, ?_, ?_, ?_, ?_⟩
  · rw [World.cell?_of_block (a := ⟨C, 0, none⟩) hblk]; exact g0
  · rw [World.cell?_of_block (a := ⟨C, 1, none⟩) hblk]; exact g1
  · rw [World.frozen?_of_block (a := ⟨C, 0, none⟩) hblk]; exact k0
  · rw [World.frozen?_of_block (a := ⟨C, 1, none⟩) hblk]; exact k1
  · exact Below.grown (hB.alloc (by omega) o) hg (by simp; omega) (fun j hj => by have := hrow j hj; omega)
  · have := hg.size; simp at this; omega

/-- A field as it lies in memory. -/
def bz (f : List UInt8 × Nat) : ByteArray × Int := (mk f.1, (f.2 : Int))
theorem mem_bz (nm : List UInt8) (zl : List (List UInt8 × Nat)) : mk nm ∈ (zl.map bz).map Prod.fst ↔ nm ∈ zl.map Prod.fst := by
  simp only [List.map_map, List.mem_map, Function.comp_def, bz]
  constructor
  · rintro ⟨f, hf, e⟩; exact ⟨f, hf, mk_inj e⟩
  · rintro ⟨f, hf, e⟩; exact ⟨f, hf, by rw [e]⟩

/-- How readComp ends. -/
def CompEnds (line : List UInt8) (e : Ending) : Prop := (∃ c, compL line = some c ∧ ∃ sa n cc, e = .returned (.agg #[.string (mk c.1), .slice sa n cc])) ∨ (compL line = none ∧ e = .panicked wrong)

theorem cut_small (b : UInt8) : ∀ (s : List UInt8) (p : List UInt8), p ∈ cutL b s → p.length ≤ s.length
  | [], p, h => by simp [cutL] at h; simp [h]
  | c :: s, p, h => by
    unfold cutL at h
    split at h
    · rcases List.mem_cons.1 h with rfl | h
      · simp
      · have := cut_small b s p h; simp; omega
    · cases hc : cutL b s with
      | nil => exact absurd hc (cutL_ne b s)
      | cons q qs =>
        rw [hc] at h
        rcases List.mem_cons.1 h with rfl | h
        · have := cut_small b s q (by rw [hc]; simp); simp; omega
        · have := cut_small b s p (by rw [hc]; simp [h]); simp; omega

set_option maxHeartbeats 1600000 in
theorem readComp_any (line : List UInt8) (m : Int) (w : World) (hsz : line.length < 500) (hm : w.cell? ⟨3, 0, none⟩ = some (.int .i64 m)) :
    Calls Tryz.prog 195 #[.string (mk line)] w fun e w' => CompEnds line e ∧ Below w.heap.size w w' := by
  have h0 : 3 < w.heap.size := World.block_lt_of_cell? w ⟨3, 0, none⟩ hm
  obtain ⟨nm, ws, hps⟩ : ∃ nm ws, cutL 32 line = nm :: ws := by
    cases h : cutL 32 line with
    | nil => exact absurd h (cutL_ne _ _)
    | cons a b => exact ⟨a, b, rfl⟩
  have HS : Hid (∀ o : Obj, Calls Tryz.prog 194 #[.string (mk line), .string ⟨#[32]⟩] (w.alloc o) fun e w' => e = .returned (.slice (some ⟨w.heap.size + 1, 0, none⟩) (ws.length + 1) (ws.length + 1)) ∧ w' = (w.alloc o).alloc (.cells ((nm :: ws).map fun l => Value.string (mk l)).toArray 9)) := fun o => by
    have := split_any 32 (mk line) m (w.alloc o) (by rw [size_mk]; exact hsz) ((World.cell?_alloc_lt w o ⟨3, 0, none⟩ h0).trans hm)
    rw [data_mk, hps, World.size_alloc] at this
    exact this
  have HCo : Hid (compL line = compP nm ws) := by
    show _ = _
    unfold compL; rw [hps]
  have hbig : ws.length < 600 := by
    have := cut_count 32 line
    rw [hps] at this
    simp at this; omega
  have HSm : Hid (∀ p ∈ nm :: ws, p.length < 500) := fun p hp => by
    have := cut_small 32 line p (by rw [hps]; exact hp); omega
  have HM : Hid (w.cell? ⟨3, 0, none⟩ = some (.int .i64 m)) := hm
  clear hm hps
  by_cases hfew : ws.length ≤ 4
  · by_cases hname : nameL nm = true
    · have HNm : Hid (NameOk (mk nm)) := (nameL_ok _).1 (by rw [data_mk]; exact hname)
      have HNl : Hid (nameL nm = true) := hname
      clear hname
      obtain ⟨i0, hi, hz0, hz1, hz2⟩ := info_parts Tryz.info135
      by_cases hne : ws = []
      · subst hne
        go_enter Tryz.func195, Tryz.ntmps195
        go_wp2_with fail
        refine Calls.mono (HS.out _) ?_
        rintro e w1 ⟨rfl, rfl⟩
        go_wp2_with (go_at_call 193; refine (need_of _ _ ?_).mono ?_; (first | rfl | (simp; omega)); rintro e w' ⟨rfl, rfl⟩)
        refine (readName_ok (mk nm) _ HNm.out).mono ?_
        rintro e w2 ⟨rfl, hb2⟩
        have HB : Hid (Below w.heap.size w w2) := (below_two _ _ _).trans (hb2.mono (by simp; omega))
        have hsz2 : w.heap.size < w2.heap.size := by have := hb2.size; simp at this; omega
        have hc0 : w2.cell? ⟨w.heap.size, 0, none⟩ = some (.string ⟨#[]⟩) := by rw [hb2.cell (p := ⟨w.heap.size, 0, none⟩) (by simp; omega), World.cell?_alloc_lt _ _ _ (by simp)]; simp
        have hc1 : w2.cell? ⟨w.heap.size, 1, none⟩ = some (.slice none 0 0) := by rw [hb2.cell (p := ⟨w.heap.size, 1, none⟩) (by simp; omega), World.cell?_alloc_lt _ _ _ (by simp)]; simp
        have hf : ∀ o, w2.frozen? ⟨w.heap.size, o, none⟩ = false := fun o => by rw [hb2.frozen (p := ⟨w.heap.size, o, none⟩) (by simp; omega)]; simp
        clear hb2
        by_cases hE : nm = [101]
        · have HCn : Hid (compL line = none) := HCo.out.trans (compP_e hE)
          have hEl : ((mk nm).toList == [101]) = true := by rw [toList_mk, hE]; decide
          clear hE HCo
          go_wp2_with fail
          refine wp_loop_rounds 1 ?_
          rw [rounds_succ]
          go_wp2_with (go_at_call 193; refine (need_no _ _ ?_).mono ?_; (first | rfl | simp [hEl]); rintro e w' ⟨rfl, rfl⟩)
          exact ⟨rfl, Or.inr ⟨HCn.out, rfl⟩, HB.out.alloc HB.out.size _⟩
        · have HCn : Hid (compL line = some (nm, [])) := HCo.out.trans (compP_some (by simp) HNl.out rfl (fun h => hE h.1))
          have hEl : ((mk nm).toList == [101]) = false := by rw [toList_mk, beq_eq_false_iff_ne]; exact hE
          clear hE HCo
          go_wp2_with fail
          refine wp_loop_rounds 1 ?_
          rw [rounds_succ]
          go_wp2_with (go_at_call 193; refine (need_of _ _ ?_).mono ?_; (first | rfl | simp [hEl]); rintro e w' ⟨rfl, rfl⟩)
          refine bodyPost_ret (v := .agg #[.string (mk nm), .slice none 0 0]) ?_ rfl ⟨Or.inl ⟨_, HCn.out, none, 0, 0, rfl⟩, ?_⟩
          · have r0 : (((w2.setCell ⟨w.heap.size, 0, none⟩ (.string (mk nm))).setCell ⟨w.heap.size, 1, none⟩ (.slice none 0 0)).alloc (.cells #[.string (mk nm), .slice none 0 0] 138)).cell? ⟨w.heap.size, 0, none⟩ = some (.string (mk nm)) := by
              rw [World.cell?_alloc_lt _ _ _ (by simp; omega), set_other _ (by omega), set_same _ hc0]
            have r1 : (((w2.setCell ⟨w.heap.size, 0, none⟩ (.string (mk nm))).setCell ⟨w.heap.size, 1, none⟩ (.slice none 0 0)).alloc (.cells #[.string (mk nm), .slice none 0 0] 138)).cell? ⟨w.heap.size, 1, none⟩ = some (.slice none 0 0) := by
              rw [World.cell?_alloc_lt _ _ _ (by simp; omega), set_same (u := .slice none 0 0) _ (by rw [set_other _ (by omega)]; exact hc1)]
            simp [results, Tryz.results195, go_sem, r0, r1]
          · repeat (first | exact HB.out | refine Below.setCell ?_ (by simp) _ | refine Below.alloc ?_ (by simp; omega) _ | refine Below.drew ?_)
      · go_enter Tryz.func195, Tryz.ntmps195
        go_wp2_with fail
        refine Calls.mono (HS.out _) ?_
        rintro e w1 ⟨rfl, rfl⟩
        go_wp2_with (go_at_call 193; refine (need_of _ _ ?_).mono ?_; (first | rfl | (simp; omega)); rintro e w' ⟨rfl, rfl⟩)
        refine (readName_ok (mk nm) _ HNm.out).mono ?_
        rintro e w2 ⟨rfl, hb2⟩
        have HB : Hid (Below w.heap.size w w2) := (below_two _ _ _).trans (hb2.mono (by simp; omega))
        have hsz2 : w.heap.size + 1 < w2.heap.size := by have := hb2.size; simp at this; omega
        have hc0 : w2.cell? ⟨w.heap.size, 0, none⟩ = some (.string ⟨#[]⟩) := by rw [hb2.cell (p := ⟨w.heap.size, 0, none⟩) (by simp; omega), World.cell?_alloc_lt _ _ _ (by simp)]; simp
        have hc1 : w2.cell? ⟨w.heap.size, 1, none⟩ = some (.slice none 0 0) := by rw [hb2.cell (p := ⟨w.heap.size, 1, none⟩) (by simp; omega), World.cell?_alloc_lt _ _ _ (by simp)]; simp
        have hf : ∀ o, w2.frozen? ⟨w.heap.size, o, none⟩ = false := fun o => by rw [hb2.frozen (p := ⟨w.heap.size, o, none⟩) (by simp; omega)]; simp
        have HP : Hid (∀ k (h : k < ws.length), w2.cell? ⟨w.heap.size + 1, 1 + k, none⟩ = some (.string (mk ws[k]))) := fun k h => by
          rw [hb2.cell (p := ⟨w.heap.size + 1, 1 + k, none⟩) (by simp)]
          have := World.cell?_alloc_new (w.alloc (.cells #[.string ⟨#[]⟩, .slice none 0 0] 138)) ((nm :: ws).map fun l => Value.string (mk l)).toArray 9 (1 + k)
          rw [World.size_alloc] at this
          rw [show 1 + k = k + 1 from by omega] at this ⊢
          simp only [List.map_cons] at this
          rw [this]
          simp [h]
        have H0 : Hid (w2.cell? ⟨3, 0, none⟩ = some (.int .i64 m)) := (HB.out.cell (p := ⟨3, 0, none⟩) h0).trans HM.out
        have X0 : Hid (w2.cell? ⟨w.heap.size, 0, none⟩ = some (.string ⟨#[]⟩) ∧ w2.cell? ⟨w.heap.size, 1, none⟩ = some (.slice none 0 0) ∧ ∀ o, w2.frozen? ⟨w.heap.size, o, none⟩ = false) := ⟨hc0, hc1, hf⟩
        clear hb2 hc0 hc1 hf
        go_wp2_with fail
        go_loopw [22] (fun t wr => ∃ (k : Nat) (v : Value) (zl : List (List UInt8 × Nat)), k ≤ ws.length ∧ t = .int .i64 k ∧ Hid (fieldsL [] (ws.take k) = some zl) ∧ Hid (zl.length = k) ∧ wr.ownsRow (w2.heap.size + 1) 135 2 v k (fieldCells (zl.map bz)) ∧ wr.cell? ⟨w2.heap.size, 0, none⟩ = some (.string (mk nm)) ∧ wr.cell? ⟨w2.heap.size, 1, none⟩ = some v ∧ wr.frozen? ⟨w2.heap.size, 0, none⟩ = false ∧ wr.frozen? ⟨w2.heap.size, 1, none⟩ = false ∧ Below w2.heap.size w2 wr ∧ w2.heap.size < wr.heap.size)
          (fun t _ => ws.length - (intOf t).toNat)
        case atStart => exact ⟨0, .slice none 0 0, [], by omega, rfl, rfl, rfl, World.ownsRow_nil _ _ _ _, by simp, by simp, by simp, by simp, (Below.refl _ _).alloc (Nat.le_refl _) _, by simp⟩
        case round =>
          obtain ⟨k, v, zl, hk, rfl, HFs, HZl, hown, hC0, hC1, hF0, hF1, hbw, hlt0⟩ := hrel
          have HBW : Hid (Below w2.heap.size w2 wr) := hbw
          have HO : Hid (wr.ownsRow (w2.heap.size + 1) 135 2 v k (fieldCells (zl.map bz))) := hown
          by_cases hlt : k < ws.length
          · have hw : wr.cell? ⟨w.heap.size + 1, 1 + k, none⟩ = some (.string (mk ws[k])) := (hbw.cell (p := ⟨w.heap.size + 1, 1 + k, none⟩) hsz2).trans (HP.out k hlt)
            have HFd : Hid _ := readField_any ws[k] m wr (HSm.out _ (by simp)) ((hbw.cell (p := ⟨3, 0, none⟩) (by simp; omega)).trans H0.out)
            have HAp : Hid (∀ r, fieldsL [] ws = (fieldsL zl (ws[k] :: r)) → True) := fun _ _ => trivial
            have HWs : Hid (fieldsL [] ws = fieldsL zl (ws[k] :: ws.drop (k + 1))) := by
              show _ = _
              have e : ws = ws.take k ++ ws[k] :: ws.drop (k + 1) := by rw [← List.drop_eq_getElem_cons hlt, List.take_append_drop]
              conv => lhs; rw [e]
              rw [fieldsL_append, HFs.out]; rfl
            have HTk : Hid (ws.take (k + 1) = ws.take k ++ [ws[k]]) := List.take_succ_eq_append_getElem hlt
            clear hbw hown HAp
            generalize ws[k] = wd at hw HFd HWs HTk
            go_wp2_with fail
            refine Calls.mono HFd.out ?_
            rintro e w3 ⟨hends, hb3⟩
            have HB3 : Hid (Below wr.heap.size wr w3) := hb3
            rcases hends with ⟨f, hf, rfl⟩ | ⟨hf, rfl⟩
            · have d0 : w3.cell? ⟨w2.heap.size, 0, none⟩ = some (.string (mk nm)) := (hb3.cell (p := ⟨w2.heap.size, 0, none⟩) hlt0).trans hC0
              have d1 : w3.cell? ⟨w2.heap.size, 1, none⟩ = some v := (hb3.cell (p := ⟨w2.heap.size, 1, none⟩) hlt0).trans hC1
              have e0 : w3.frozen? ⟨w2.heap.size, 0, none⟩ = false := (hb3.frozen (p := ⟨w2.heap.size, 0, none⟩) hlt0).trans hF0
              have e1 : w3.frozen? ⟨w2.heap.size, 1, none⟩ = false := (hb3.frozen (p := ⟨w2.heap.size, 1, none⟩) hlt0).trans hF1
              have hs3 : w2.heap.size < w3.heap.size := Nat.lt_of_lt_of_le hlt0 hb3.size
              have HO3 : Hid (w3.ownsRow (w2.heap.size + 1) 135 2 v k (fieldCells (zl.map bz))) := HO.out.kept (grownBy_below hb3 none) (by cases v.ownBlock <;> simp)
              have HF : Hid (fieldR wd = some f) := hf
              clear hb3 hC0 hC1 hF0 hF1 hw hf
              obtain ⟨sa, sc, rfl⟩ := own_form HO.out
              have HFi : Hid _ := find104_any (mk nm) (mk f.1) (.slice sa k sc) (w2.heap.size + 1) (zl.map bz) (w3.alloc (.cells #[.string (mk f.1), .int .i64 (f.2 : Int)] 135)) (by rw [List.length_map, HZl.out]; omega) (by rw [List.length_map, HZl.out]; exact HO3.out.alloc _)
              go_wp2_with fail
              refine Calls.mono HFi.out ?_
              rintro e w5 ⟨⟨r, rfl, hr⟩, hb5⟩
              have b0 : w5.cell? ⟨w3.heap.size, 0, none⟩ = some (.string (mk f.1)) := by rw [hb5.cell (p := ⟨w3.heap.size, 0, none⟩) (by simp)]; simp
              have b1 : w5.cell? ⟨w3.heap.size, 1, none⟩ = some (.int .i64 (f.2 : Int)) := by rw [hb5.cell (p := ⟨w3.heap.size, 1, none⟩) (by simp)]; simp
              have HB5 : Hid (Below w3.heap.size w3 w5) := ((Below.refl _ _).alloc (Nat.le_refl _) _).trans (hb5.mono (by simp))
              have HB2 : Hid (Below w2.heap.size w2 w5) := (Below.trans HBW.out (HB3.out.mono (by omega))).trans (HB5.out.mono (by omega))
              rw [mem_bz] at hr
              by_cases hdup : f.1 ∈ zl.map Prod.fst
              · have hr0 : ¬ r < 0 := fun h => (hr.1 h) hdup
                have HCn : Hid (compL line = none) := HCo.out.trans (compP_none (by rw [HWs.out, fieldsL, HF.out]; simp only; rw [if_pos hdup]))
                clear hdup hr hb5
                go_wp2_with (go_at_call 193; refine (need_no _ _ ?_).mono ?_; (first | rfl | (simp; omega)); rintro e w' ⟨rfl, rfl⟩)
                exact ⟨rfl, Or.inr ⟨HCn.out, rfl⟩, HB.out.trans (HB2.out.mono (by omega))⟩
              · have hr0 : r < 0 := hr.2 hdup
                have HN1 : Hid (fieldsL [] (ws.take (k + 1)) = some (zl ++ [f])) := by
                  show _ = _
                  rw [HTk.out, fieldsL_append, HFs.out]
                  show fieldsL zl [wd] = _
                  rw [fieldsL, HF.out]; simp only; rw [if_neg hdup]; rfl
                have g0 : w5.cell? ⟨w2.heap.size, 0, none⟩ = some (.string (mk nm)) := (HB5.out.cell (p := ⟨w2.heap.size, 0, none⟩) hs3).trans d0
                have g1 : w5.cell? ⟨w2.heap.size, 1, none⟩ = some (.slice sa k sc) := (HB5.out.cell (p := ⟨w2.heap.size, 1, none⟩) hs3).trans d1
                have k0 : w5.frozen? ⟨w2.heap.size, 0, none⟩ = false := (HB5.out.frozen (p := ⟨w2.heap.size, 0, none⟩) hs3).trans e0
                have k1 : w5.frozen? ⟨w2.heap.size, 1, none⟩ = false := (HB5.out.frozen (p := ⟨w2.heap.size, 1, none⟩) hs3).trans e1
                have hs5 : w2.heap.size < w5.heap.size := Nat.lt_of_lt_of_le hs3 HB5.out.size
                have hown5 : w5.ownsRow (w2.heap.size + 1) 135 2 (.slice sa k sc) k (fieldCells (zl.map bz)) := HO3.out.kept (grownBy_below HB5.out none) (by cases (Value.slice sa k sc).ownBlock <;> simp)
                clear hb5 d0 d1 e0 e1 hdup hr
                go_wp2_with (first | (go_at_call 193; refine (need_of _ _ ?_).mono ?_; (first | rfl | (simp; omega)); rintro e w' ⟨rfl, rfl⟩) | (at_builtin; refine wpList_append_own _ rfl _ _ 136 rfl (w2.heap.size + 1) 135 i0 (.agg #[.string ⟨#[]⟩, .int .i64 0]) 2 24 Tryz.underlying136 hi hz0 hz1 hz2 rfl (by decide) _ _ _ rfl (hown5.alloc _) ⟨w5.heap.size, 0, none⟩ 1 1 [.string (mk f.1), .int .i64 (f.2 : Int)] rfl rfl (cell_two_new _ _ _ _) (fun x hx => by simp at hx; rcases hx with rfl | rfl <;> rfl) (by unfold maxLen; omega) (by omega) (by simp; omega) ?_; intro v' w6 hown6 hgrow6 _; obtain ⟨gg, gc, rfl, q0, q1, f0, f1, hB6, hs6⟩ := row_step hown5 hown6 hgrow6 g0 g1 k0 k1 hs5 HB2.out; have HO6 : Hid (w6.ownsRow (w2.heap.size + 1) 135 2 (.slice (some ⟨gg, 0, none⟩) (k + 1) gc) (k + 1) (fieldCells (zl.map bz) ++ [.string (mk f.1), .int .i64 (f.2 : Int)])) := hown6; have HB6 : Hid (Below w2.heap.size w2 w6) := hB6; clear hown5 hown6 hgrow6 g0 g1 k0 k1 hB6))
                go_roundw
                case rel =>
                  refine ⟨k + 1, .slice (some ⟨gg, 0, none⟩) (k + 1) gc, zl ++ [f], by omega, by go_num, HN1, ?_, ?_, ?_, ?_, ?_, ?_, ?_, ?_⟩
                  · show _ = _; rw [List.length_append, HZl.out]; rfl
                  · have e : fieldCells ((zl ++ [f]).map bz) = fieldCells (zl.map bz) ++ [.string (mk f.1), .int .i64 (f.2 : Int)] := by simp [fieldCells, bz]
                    rw [e]
                    exact ownsRow_setCell_below HO6.out (by simp) _
                  · rw [set_other _ (by omega)]; exact q0
                  · exact set_same _ q1
                  · simpa using f0
                  · simpa using f1
                  · exact HB6.out.setCell (by simp) _
                  · simpa using hs6
                case measure => simp [intOf]; omega
            · have HCn : Hid (compL line = none) := HCo.out.trans (compP_none (by rw [HWs.out, fieldsL, hf]))
              clear hf hb3
              go_wp2_with fail
              exact ⟨rfl, Or.inr ⟨HCn.out, rfl⟩, HB.out.trans ((Below.trans HBW.out (HB3.out.mono (by omega))).mono (by omega))⟩
          · obtain ⟨sa, sc, rfl⟩ := own_form hown
            have hkl : k = ws.length := by omega
            have HCn : Hid (compL line = some (nm, zl)) := HCo.out.trans (compP_some hfew HNl.out (by
              have := HFs.out; rw [hkl, List.take_length] at this; exact this) (fun h => by
                have h1 := HZl.out; rw [h.2] at h1; simp at h1
                exact hne (List.eq_nil_of_length_eq_zero (by omega))))
            have hk0 : (0 : Int) < (k : Int) := by
              have : ws.length ≠ 0 := fun h => hne (List.eq_nil_of_length_eq_zero h)
              omega
            have r0 : wr.cell? ⟨w.heap.size, 0, none⟩ = some (.string ⟨#[]⟩) := (hbw.cell (p := ⟨w.heap.size, 0, none⟩) (by simp; omega)).trans X0.out.1
            have r1 : wr.cell? ⟨w.heap.size, 1, none⟩ = some (.slice none 0 0) := (hbw.cell (p := ⟨w.heap.size, 1, none⟩) (by simp; omega)).trans X0.out.2.1
            have f0 : ∀ o, wr.frozen? ⟨w.heap.size, o, none⟩ = false := fun o => (hbw.frozen (p := ⟨w.heap.size, o, none⟩) (by simp; omega)).trans (X0.out.2.2 o)
            clear hown hbw hkl
            cases hEl : ((mk nm).toList == [101])
            all_goals
              go_wp2_with (go_at_call 193; refine (need_of _ _ ?_).mono ?_; (first | rfl | (simp; done) | (simp; omega)); rintro e w' ⟨rfl, rfl⟩)
              refine bodyPost_ret (v := .agg #[.string (mk nm), .slice sa k sc]) ?_ rfl ⟨Or.inl ⟨_, HCn.out, sa, k, sc, rfl⟩, ?_⟩
              · have t0 : ((wr.setCell ⟨w.heap.size, 0, none⟩ (.string (mk nm))).setCell ⟨w.heap.size, 1, none⟩ (.slice sa k sc)).cell? ⟨w.heap.size, 0, none⟩ = some (.string (mk nm)) := by
                  rw [set_other _ (by omega), set_same _ r0]
                have t1 : ((wr.setCell ⟨w.heap.size, 0, none⟩ (.string (mk nm))).setCell ⟨w.heap.size, 1, none⟩ (.slice sa k sc)).cell? ⟨w.heap.size, 1, none⟩ = some (.slice sa k sc) := by
                  rw [set_same (u := .slice none 0 0) _ (by rw [set_other _ (by omega)]; exact r1)]
                simp [results, Tryz.results195, go_sem, t0, t1]
              · exact ((HB.out.trans (Below.mono HBW.out (by omega))).setCell (by simp) _).setCell (by simp) _
    · have HNm : Hid (¬ NameOk (mk nm)) := fun h => hname (by have := (nameL_ok _).2 h; rw [data_mk] at this; exact this)
      have HCn : Hid (compL line = none) := by show _ = _; rw [HCo.out]; unfold compP; rw [if_neg (fun h => hname h.2)]
      have HZ : Hid ((mk nm).size ≤ 1000000000) := by show _ ≤ _; rw [size_mk]; have := HSm.out nm (by simp); omega
      clear HCo hname
      go_enter Tryz.func195, Tryz.ntmps195
      go_wp2_with fail
      refine Calls.mono (HS.out _) ?_
      rintro e w1 ⟨rfl, rfl⟩
      go_wp2_with (go_at_call 193; refine (need_of _ _ ?_).mono ?_; (first | rfl | (simp; omega)); rintro e w' ⟨rfl, rfl⟩)
      refine (readName_no (mk nm) _ HZ.out HNm.out).mono ?_
      rintro e w2 ⟨rfl, rfl⟩
      go_wp2_with fail
      exact ⟨rfl, Or.inr ⟨HCn.out, rfl⟩, below_two _ _ _⟩
  · have HCn : Hid (compL line = none) := by show _ = _; rw [HCo.out]; unfold compP; rw [if_neg (fun h => hfew h.1)]
    clear HCo
    go_enter Tryz.func195, Tryz.ntmps195
    go_wp2_with fail
    refine Calls.mono (HS.out _) ?_
    rintro e w1 ⟨rfl, rfl⟩
    go_wp2_with (go_at_call 193; refine (need_no _ _ ?_).mono ?_; (first | rfl | (simp; omega)); rintro e w' ⟨rfl, rfl⟩)
    exact ⟨rfl, Or.inr ⟨HCn.out, rfl⟩, below_two _ _ _⟩

end Go.Proofs.YthkbeaffkcfgiabGreatDoor

namespace Go.Proofs.YthkbeaffkcfgiabGreatDoor
open Go.RowKit

theorem Tryz.info138 : (Tryz.prog.info? 138).map (fun i => (i.zero, i.size, i.bytes)) = some (some (.agg #[.string ⟨#[]⟩, .slice none 0 0]), 2, 40) := by kernel_rfl

/-- A layout of n components that has been made since: what its slice leads to. -/
def LaidAt (w w' : World) (sa : Option Addr) (n c : Nat) : Prop := ∃ g, sa = some ⟨g, 0, none⟩ ∧ w.heap.size ≤ g ∧ n ≤ c ∧ LayAt w' g n

/-- How readLayout ends. -/
def LayEnds (w : World) (text : List UInt8) (e : Ending) (w' : World) : Prop := (∃ cs, schemaL text = some cs ∧ ∃ sa n c, e = .returned (.slice sa n c) ∧ LaidAt w w' sa n c) ∨ (schemaL text = none ∧ e = .panicked wrong)

theorem laid_own {w w' : World} {base : Nat} {sa : Option Addr} {n c : Nat} {cs : List (ByteArray × (Option Addr × Nat × Nat))} (h : w'.ownsRow base 138 2 (.slice sa n c) n (compCells cs)) (hl : cs.length = n) (hn : 0 < n) (h6 : n ≤ 6) (hb : w.heap.size ≤ base) : LaidAt w w' sa n c := by
  rcases h.2 with ⟨_, h2⟩ | ⟨g, cap, cur, h1, h2, h3, h4, h5, h7, h8⟩
  · omega
  · simp at h1
    obtain ⟨rfl, rfl⟩ := h1
    refine ⟨g, rfl, by omega, h4, (Array.getElem?_eq_some_iff.1 h3).1, h6, fun j hj => ?_⟩
    obtain ⟨e1, e2⟩ := flat2_get (fun z : ByteArray × (Option Addr × Nat × Nat) => Value.string z.1) (fun z => Value.slice z.2.1 z.2.2.1 z.2.2.2) cs j (by omega)
    have hc : ∀ t u, (compCells cs)[t]? = some u → w'.cell? ⟨g, t, none⟩ = some u := fun t u hu => by
      rw [cell_row h3]
      rw [← h8, List.getElem?_take] at hu
      split at hu
      · simpa using hu
      · cases hu
    exact ⟨_, _, _, _, hc _ _ e1, hc _ _ e2⟩

theorem suffix_cases (text : List UInt8) : (Lib.hasSuffix text [10] = false ∧ schemaL text = none) ∨ (Lib.hasSuffix text [10] = true ∧ ∃ body, text = body ++ [10] ∧ Lib.trimSuffix text [10] = body) := by
  by_cases h : ∃ body, text = body ++ [10]
  · obtain ⟨body, rfl⟩ := h
    right
    have hs : Lib.hasSuffix (body ++ [10]) [10] = true := by
      unfold Lib.hasSuffix; rw [List.isSuffixOf_iff_suffix]; exact ⟨body, rfl⟩
    refine ⟨hs, body, rfl, ?_⟩
    unfold Lib.trimSuffix
    rw [if_pos hs]
    simp
  · left
    refine ⟨?_, schemaL_noEnd text fun body e => h ⟨body, e⟩⟩
    cases hs : Lib.hasSuffix text [10] with
    | false => rfl
    | true =>
      unfold Lib.hasSuffix at hs
      rw [List.isSuffixOf_iff_suffix] at hs
      obtain ⟨body, hb⟩ := hs
      exact absurd ⟨body, hb.symm⟩ h

theorem mem_names {cs : List (ByteArray × (Option Addr × Nat × Nat))} {cl : List (List UInt8 × List (List UInt8 × Nat))} (h : cs.map Prod.fst = cl.map fun c => mk c.1) (nm : List UInt8) : mk nm ∈ cs.map Prod.fst ↔ nm ∈ cl.map Prod.fst := by
  rw [h]
  simp only [List.mem_map]
  constructor
  · rintro ⟨c, hc, e⟩; exact ⟨c, hc, mk_inj e⟩
  · rintro ⟨c, hc, e⟩; exact ⟨c, hc, by rw [e]⟩

set_option maxHeartbeats 1600000 in
theorem readLayout_any (text : List UInt8) (m : Int) (w : World) (hsz : text.length ≤ 1000000000) (hm : w.cell? ⟨3, 0, none⟩ = some (.int .i64 m)) :
    Calls Tryz.prog 127 #[.string (mk text)] w fun e w' => LayEnds w text e w' ∧ Below w.heap.size w w' := by
  have h0 : 3 < w.heap.size := World.block_lt_of_cell? w ⟨3, 0, none⟩ hm
  have hts : (mk text).size = text.length := size_mk text
  by_cases h4 : text.length ≤ 400
  · have HCut : Hid (Calls Tryz.prog 182 #[.string (mk text), .string ⟨#[10]⟩] w fun e w' => e = .returned (.tuple #[.string (mk (Lib.trimSuffix text [10])), .bool (Lib.hasSuffix text [10])]) ∧ w = w') := by
      have := Tryz.strings_CutSuffix (mk text) ⟨#[10]⟩ w (by omega)
      rw [show (⟨#[10]⟩ : ByteArray).data.toList = [10] from rfl, data_mk] at this
      exact this.mono fun e w' h => ⟨h.1, h.2.symm⟩
    have hsz4 : (mk text).size ≤ 400 := by omega
    clear hts
    rcases suffix_cases text with ⟨hs, hn⟩ | ⟨hs, body, hb, ht⟩
    · rw [hs] at HCut
      have HN : Hid (schemaL text = none) := hn
      clear hn hs hm
      generalize mk (Lib.trimSuffix text [10]) = bd at HCut
      go_enter Tryz.func127, Tryz.ntmps127
      go_wp2_with (go_at_call 193; refine (need_of _ _ ?_).mono ?_; (first | rfl | (simp; omega)); rintro e w' ⟨rfl, rfl⟩)
      refine Calls.mono HCut.out ?_
      rintro e w1 ⟨rfl, rfl⟩
      go_wp2_with (go_at_call 193; refine (need_no _ _ ?_).mono ?_; (first | rfl | (simp; omega)); rintro e w' ⟨rfl, rfl⟩)
      exact ⟨rfl, Or.inr ⟨HN.out, rfl⟩, Below.refl _ _⟩
    · rw [hs, ht] at HCut
      have HSch : Hid (schemaL text = if (cutL 10 body).length ≤ 6 then compsL [] (cutL 10 body) else none) := by
        show _ = _
        rw [hb, schemaL_body]
        by_cases h6 : (cutL 10 body).length ≤ 6
        · rw [if_pos h6, if_pos ⟨by rw [← hb]; exact h4, h6⟩]
        · rw [if_neg h6, if_neg (fun h => h6 h.2)]
      have hbl : body.length < 500 := by rw [hb] at h4; simp at h4; omega
      obtain ⟨ls, hls⟩ : ∃ ls, ls = cutL 10 body := ⟨_, rfl⟩
      have HSp : Hid (Calls Tryz.prog 194 #[.string (mk body), .string ⟨#[10]⟩] w fun e w' => e = .returned (.slice (some ⟨w.heap.size, 0, none⟩) ls.length ls.length) ∧ w' = w.alloc (.cells (ls.map fun l => Value.string (mk l)).toArray 9)) := by
        have := split_any 10 (mk body) m w (by rw [size_mk]; exact hbl) hm
        rw [data_mk, ← hls] at this
        exact this
      have hl1 : 0 < ls.length := by rw [hls]; exact cutL_length 10 body
      have hlbig : ls.length < 600 := by have := cut_count 10 body; rw [← hls] at this; omega
      have HSm : Hid (∀ p ∈ ls, p.length < 500) := fun p hp => by
        rw [hls] at hp
        have := cut_small 10 body p hp; omega
      rw [← hls] at HSch
      have HM : Hid (w.cell? ⟨3, 0, none⟩ = some (.int .i64 m)) := hm
      clear hm hls hb ht hs
      by_cases hfew : ls.length ≤ 6
      · have HSc : Hid (schemaL text = compsL [] ls) := by show _ = _; rw [HSch.out, if_pos hfew]
        clear HSch
        obtain ⟨i0, hi, hz0, hz1, hz2⟩ := info_parts Tryz.info138
        go_enter Tryz.func127, Tryz.ntmps127
        go_wp2_with (go_at_call 193; refine (need_of _ _ ?_).mono ?_; (first | rfl | (simp; omega)); rintro e w' ⟨rfl, rfl⟩)
        refine Calls.mono HCut.out ?_
        rintro e w1 ⟨rfl, rfl⟩
        go_wp2_with (go_at_call 193; refine (need_of _ _ ?_).mono ?_; (first | rfl | (simp; omega)); rintro e w' ⟨rfl, rfl⟩)
        refine Calls.mono HSp.out ?_
        rintro e w1 ⟨rfl, rfl⟩
        go_wp2_with (first | (go_at_call 193; refine (need_of _ _ ?_).mono ?_; (first | rfl | (simp; omega)); rintro e w' ⟨rfl, rfl⟩) | (at_make; refine wpList_make_own _ rfl _ _ 103 rfl (w.heap.size + 1) 138 i0 (.agg #[.string ⟨#[]⟩, .slice none 0 0]) 2 Tryz.underlying103 hi hz0 hz1 .i64 .i64 _ ls.length rfl rfl rfl (by rw [hz2]; omega) (by unfold maxLen; omega) (by simp) ?_; intro w0 hown0 hgrow0))
        have HB0 : Hid (Below (w.heap.size + 1) (w.alloc (.cells (ls.map fun l => Value.string (mk l)).toArray 9)) w0) := ⟨hgrow0.os, hgrow0.tape, hgrow0.output, hgrow0.size, fun j hj => hgrow0.block j (by simp; omega) (by simp)⟩
        have HO0 : Hid (w0.ownsRow (w.heap.size + 1) 138 2 (.slice (some ⟨w.heap.size + 1, 0, none⟩) 0 ls.length) 0 (compCells [])) := by rw [World.size_alloc] at hown0; exact hown0
        have HP : Hid (∀ k (h : k < ls.length), (w.alloc (.cells (ls.map fun l => Value.string (mk l)).toArray 9)).cell? ⟨w.heap.size, k, none⟩ = some (.string (mk ls[k]))) := fun k h => by
          rw [World.cell?_alloc_new]; simp [h]
        have H0 : Hid ((w.alloc (.cells (ls.map fun l => Value.string (mk l)).toArray 9)).cell? ⟨3, 0, none⟩ = some (.int .i64 m)) := (World.cell?_alloc_lt _ _ _ h0).trans HM.out
        have HBS : Hid (Below w.heap.size w (w.alloc (.cells (ls.map fun l => Value.string (mk l)).toArray 9))) := (Below.refl _ _).alloc (Nat.le_refl _) _
        obtain ⟨wS, hwS⟩ : ∃ wS, wS = w.alloc (.cells (ls.map fun l => Value.string (mk l)).toArray 9) := ⟨_, rfl⟩
        rw [← hwS] at HB0 HP H0 HBS
        have hsS : wS.heap.size = w.heap.size + 1 := by rw [hwS]; simp
        have HsS : Hid (wS.heap.size = w.heap.size + 1) := hsS
        clear hown0 hgrow0 hsS hwS
        go_loopw [6, 32] (fun v t wr => ∃ (k : Nat) (cs : List (ByteArray × (Option Addr × Nat × Nat))) (cl : List (List UInt8 × List (List UInt8 × Nat))), k ≤ ls.length ∧ t = .int .i64 k ∧ Hid (compsL [] (ls.take k) = some cl) ∧ Hid (cs.map Prod.fst = cl.map fun c => mk c.1) ∧ Hid (cs.length = k) ∧ wr.ownsRow (w.heap.size + 1) 138 2 v k (compCells cs) ∧ Below (w.heap.size + 1) wS wr)
          (fun _ t _ => ls.length - (intOf t).toNat)
        case atStart => exact ⟨0, [], [], by omega, rfl, rfl, rfl, rfl, HO0.out, HB0.out⟩
        case round =>
          obtain ⟨k, cs, cl, hk, rfl, HCs, HNs, HCL, hown, hbw⟩ := hrel
          have HBW : Hid (Below (w.heap.size + 1) wS wr) := hbw
          have HO : Hid (wr.ownsRow (w.heap.size + 1) 138 2 u6 k (compCells cs)) := hown
          have hs0 : w.heap.size + 1 ≤ wr.heap.size := by have := hbw.size; rw [HsS.out] at this; exact this
          by_cases hlt : k < ls.length
          · have hw : wr.cell? ⟨w.heap.size, k, none⟩ = some (.string (mk ls[k])) := (hbw.cell (p := ⟨w.heap.size, k, none⟩) (by simp)).trans (HP.out k hlt)
            have HFd : Hid _ := readComp_any ls[k] m wr (HSm.out _ (List.getElem_mem hlt)) ((hbw.cell (p := ⟨3, 0, none⟩) (by simp; omega)).trans H0.out)
            have HWs : Hid (compsL [] ls = compsL cl (ls[k] :: ls.drop (k + 1))) := by
              show _ = _
              have e : ls = ls.take k ++ ls[k] :: ls.drop (k + 1) := by rw [← List.drop_eq_getElem_cons hlt, List.take_append_drop]
              conv => lhs; rw [e]
              rw [compsL_append, HCs.out]; rfl
            have HTk : Hid (ls.take (k + 1) = ls.take k ++ [ls[k]]) := List.take_succ_eq_append_getElem hlt
            clear hbw hown
            generalize ls[k] = wd at hw HFd HWs HTk
            go_wp2_with fail
            refine Calls.mono HFd.out ?_
            rintro e w3 ⟨hends, hb3⟩
            have HB3 : Hid (Below wr.heap.size wr w3) := hb3
            rcases hends with ⟨f, hf, sa, sn, sc, rfl⟩ | ⟨hf, rfl⟩
            · have HO3 : Hid (w3.ownsRow (w.heap.size + 1) 138 2 u6 k (compCells cs)) := HO.out.kept (grownBy_below hb3 none) (by cases u6.ownBlock <;> simp)
              have hs3 : w.heap.size + 1 ≤ w3.heap.size := Nat.le_trans hs0 hb3.size
              have HF : Hid (compL wd = some f) := hf
              clear hb3 hw hf
              have HFi : Hid _ := find99_any (mk f.1) u6 (w.heap.size + 1) cs (w3.alloc (.cells #[.string (mk f.1), .slice sa sn sc] 138)) (by rw [HCL.out]; omega) (by rw [HCL.out]; exact HO3.out.alloc _)
              go_wp2_with fail
              refine Calls.mono HFi.out ?_
              rintro e w5 ⟨⟨r, rfl, hr⟩, hb5⟩
              rw [mem_names HNs.out] at hr
              have b0 : w5.cell? ⟨w3.heap.size, 0, none⟩ = some (.string (mk f.1)) := by rw [hb5.cell (p := ⟨w3.heap.size, 0, none⟩) (by simp)]; simp
              have b1 : w5.cell? ⟨w3.heap.size, 1, none⟩ = some (.slice sa sn sc) := by rw [hb5.cell (p := ⟨w3.heap.size, 1, none⟩) (by simp)]; simp
              have HB5 : Hid (Below w3.heap.size w3 w5) := ((Below.refl _ _).alloc (Nat.le_refl _) _).trans (hb5.mono (by simp))
              have hs5 : w.heap.size + 1 ≤ w5.heap.size := Nat.le_trans hs3 HB5.out.size
              have HB2 : Hid (Below (w.heap.size + 1) wS w5) := (Below.trans HBW.out (Below.mono HB3.out (by omega))).trans (HB5.out.mono (by omega))
              by_cases hdup : f.1 ∈ cl.map Prod.fst
              · have hr0 : ¬ r < 0 := fun h => (hr.1 h) hdup
                have HCn : Hid (schemaL text = none) := HSc.out.trans (by rw [HWs.out, compsL, HF.out]; simp only; rw [if_pos hdup])
                clear hdup hr hb5
                go_wp2_with (go_at_call 193; refine (need_no _ _ ?_).mono ?_; (first | rfl | (simp; omega)); rintro e w' ⟨rfl, rfl⟩)
                exact ⟨rfl, Or.inr ⟨HCn.out, rfl⟩, HBS.out.trans (HB2.out.mono (by omega))⟩
              · have hr0 : r < 0 := hr.2 hdup
                have HN1 : Hid (compsL [] (ls.take (k + 1)) = some (cl ++ [f])) := by
                  show _ = _
                  rw [HTk.out, compsL_append, HCs.out]
                  show compsL cl [wd] = _
                  rw [compsL, HF.out]; simp only; rw [if_neg hdup]; rfl
                have hown5 : w5.ownsRow (w.heap.size + 1) 138 2 u6 k (compCells cs) := HO3.out.kept (grownBy_below HB5.out none) (by cases u6.ownBlock <;> simp)
                clear hb5 hdup hr
                go_wp2_with (first | (go_at_call 193; refine (need_of _ _ ?_).mono ?_; (first | rfl | (simp; omega)); rintro e w' ⟨rfl, rfl⟩) | (at_builtin; refine wpList_append_own _ rfl _ _ 103 rfl (w.heap.size + 1) 138 i0 (.agg #[.string ⟨#[]⟩, .slice none 0 0]) 2 40 Tryz.underlying103 hi hz0 hz1 hz2 rfl (by decide) _ _ _ rfl (hown5.alloc _) ⟨w5.heap.size, 0, none⟩ 1 1 [.string (mk f.1), .slice sa sn sc] rfl rfl (cell_two_new _ _ _ _) (fun x hx => by simp at hx; rcases hx with rfl | rfl <;> rfl) (by unfold maxLen; omega) (by omega) (by simp; omega) ?_; intro v' w6 hown6 hgrow6 _; have HO6 : Hid (w6.ownsRow (w.heap.size + 1) 138 2 v' (k + 1) (compCells cs ++ [.string (mk f.1), .slice sa sn sc])) := hown6; have HB6 : Hid (Below (w.heap.size + 1) wS w6) := Below.grown (HB2.out.alloc (by omega) _) hgrow6 (by simp; omega) (fun j hj => (hown5.lt j hj).1); clear hown5 hown6 hgrow6))
                go_roundw
                case rel =>
                  refine ⟨k + 1, cs ++ [(mk f.1, sa, sn, sc)], cl ++ [f], by omega, by go_num, HN1, ?_, ?_, ?_, HB6.out⟩
                  · show _ = _; rw [List.map_append, List.map_append, HNs.out]; rfl
                  · show _ = _; rw [List.length_append, HCL.out]; rfl
                  · have e : compCells (cs ++ [(mk f.1, sa, sn, sc)]) = compCells cs ++ [.string (mk f.1), .slice sa sn sc] := by simp [compCells]
                    rw [e]; exact HO6.out
                case measure => simp [intOf]; omega
            · have HCn : Hid (schemaL text = none) := HSc.out.trans (by rw [HWs.out, compsL, hf])
              clear hf hb3
              go_wp2_with fail
              exact ⟨rfl, Or.inr ⟨HCn.out, rfl⟩, HBS.out.trans ((Below.trans HBW.out (HB3.out.mono (by omega))).mono (by omega))⟩
          · obtain ⟨sa, sc, rfl⟩ := own_form hown
            have hkl : k = ls.length := by omega
            have HCn : Hid (schemaL text = some cl) := HSc.out.trans (by have := HCs.out; rw [hkl, List.take_length] at this; exact this)
            have HLd : Hid (LaidAt w wr sa k sc) := laid_own HO.out HCL.out (by omega) (by omega) (by omega)
            clear hown hbw hkl
            go_wp2
            go_ret
            exact ⟨Or.inl ⟨_, HCn.out, sa, k, sc, rfl, HLd.out⟩, HBS.out.trans (Below.mono HBW.out (by omega))⟩
      · have HSc : Hid (schemaL text = none) := by show _ = _; rw [HSch.out, if_neg hfew]
        clear HSch
        go_enter Tryz.func127, Tryz.ntmps127
        go_wp2_with (go_at_call 193; refine (need_of _ _ ?_).mono ?_; (first | rfl | (simp; omega)); rintro e w' ⟨rfl, rfl⟩)
        refine Calls.mono HCut.out ?_
        rintro e w1 ⟨rfl, rfl⟩
        go_wp2_with (go_at_call 193; refine (need_of _ _ ?_).mono ?_; (first | rfl | (simp; omega)); rintro e w' ⟨rfl, rfl⟩)
        refine Calls.mono HSp.out ?_
        rintro e w1 ⟨rfl, rfl⟩
        go_wp2_with (go_at_call 193; refine (need_no _ _ ?_).mono ?_; (first | rfl | (simp; omega)); rintro e w' ⟨rfl, rfl⟩)
        exact ⟨rfl, Or.inr ⟨HSc.out, rfl⟩, (Below.refl _ _).alloc (Nat.le_refl _) _⟩
  · have HN : Hid (schemaL text = none) := by show _ = _; unfold schemaL; rw [if_neg (fun h => h4 h.1)]
    clear hm
    have h4' : ¬ ((mk text).size : Int) ≤ 400 := by omega
    have hbg : (mk text).size ≤ 1000000000 := by omega
    clear hts
    go_enter Tryz.func127, Tryz.ntmps127
    go_wp2_with (go_at_call 193; refine (need_no _ _ ?_).mono ?_; (first | rfl | (simp; omega)); rintro e w' ⟨rfl, rfl⟩)
    exact ⟨rfl, Or.inr ⟨HN.out, rfl⟩, Below.refl _ _⟩

end Go.Proofs.YthkbeaffkcfgiabGreatDoor
