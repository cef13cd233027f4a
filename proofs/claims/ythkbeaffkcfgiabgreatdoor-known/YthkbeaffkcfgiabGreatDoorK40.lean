import Derived.Test.YthkbeaffkcfgiabGreatDoorK36
import Derived.Test.YthkbeaffkcfgiabGreatDoorK27
import Derived.Test.YthkbeaffkcfgiabGreatDoorK23
import Derived.Test.YthkbeaffkcfgiabGreatDoorK38
import Derived.Test.YthkbeaffkcfgiabGreatDoorK18
import Derived.Test.YthkbeaffkcfgiabGreatDoorK39
set_option linter.unusedSimpArgs false
set_option linter.unusedVariables false
namespace Go.Proofs.YthkbeaffkcfgiabGreatDoor
open Go.RowKit

set_option maxHeartbeats 1600000 in
theorem fromBytes1_any (b0 g : Nat) (L : List CompS) (lc : Nat) (text : List UInt8) (p1 p2 : Nat) (w : World) (h1 : w.cell? ⟨p1, 0, none⟩ = some (.string (mk text))) (h2 : w.cell? ⟨p2, 0, none⟩ = some (.slice (some ⟨g, 0, none⟩) L.length lc)) (hl : text.length ≤ 2 ^ 40) (hL : LayN w b0 g L) (hlc : L.length ≤ lc) :
    Calls Tryz.prog 117 #[.pointer (some ⟨p1, 0, none⟩), .pointer (some ⟨p2, 0, none⟩)] w (SEnds w (readBytesL L text)) := by
  have HC : Hid (Calls Tryz.prog 118 #[.string (mk text), .slice (some ⟨g, 0, none⟩) L.length lc] w (SEnds w (readBytesL L text))) := readBytes_any b0 g L lc text w hl hL hlc
  clear hL
  generalize L.length = n at h2 HC hlc
  generalize readBytesL L text = r at HC ⊢
  go_enter Tryz.func117, Tryz.ntmps117
  go_wp2_with fail
  refine Calls.mono HC.out ?_
  rintro e w1 ⟨⟨sc, sa, vc, sls, lvs, hr, rfl, hS⟩ | ⟨hr, rfl⟩, hb⟩
  · go_wp2_with fail
    go_ret
    exact ⟨Or.inl ⟨sc, sa, vc, sls, lvs, hr, rfl, hS⟩, hb⟩
  · go_wp2_with fail
    exact ⟨rfl, Or.inr ⟨by first | exact hr | rfl, rfl⟩, hb⟩

set_option maxHeartbeats 1600000 in
/-- scene.FromBytes. -/
theorem fromBytes_any (b0 g : Nat) (L : List CompS) (lc : Nat) (text : List UInt8) (w : World) (hl : text.length ≤ 2 ^ 40) (hL : LayN w b0 g L) (hlc : L.length ≤ lc) :
    Calls Tryz.prog 57 #[.string (mk text), .slice (some ⟨g, 0, none⟩) L.length lc] w (AEnds w (readBytesL L text)) := by
  obtain ⟨W1, hW1⟩ : ∃ W1, W1 = (w.alloc (.cells #[.string (mk text)] 9)).alloc (.cells #[.slice (some ⟨g, 0, none⟩) L.length lc] 103) := ⟨_, rfl⟩
  have hB1 : Below w.heap.size w W1 := by rw [hW1]; exact below_two _ _ _
  have hs1 : W1.heap.size = w.heap.size + 2 := by rw [hW1]; simp
  have q0 : W1.heap[w.heap.size]? = some (.cells #[.string (mk text)] 9 (0, 0)) := by rw [hW1, Below.heap_alloc _ _ _ (by simp)]; exact heap_alloc_at rfl _
  have q1 : W1.heap[w.heap.size + 1]? = some (.cells #[.slice (some ⟨g, 0, none⟩) L.length lc] 103 (0, 0)) := by rw [hW1]; exact heap_alloc_at (by simp) _
  have HA : Hid (Calls Tryz.prog 112 #[.func (.func 117) #[] #[.pointer (some ⟨w.heap.size, 0, none⟩), .pointer (some ⟨w.heap.size + 1, 0, none⟩)]] W1 (AEnds w (readBytesL L text))) := by
    have hB2 : Below W1.heap.size W1 ((W1.alloc (.cells #[.slice none 0 0] 99)).alloc (.cells #[.bool false] 4)) := below_two _ _ _
    have hB3 := hB1.trans (hB2.mono hB1.size)
    refine (attempt_any 117 #[.pointer (some ⟨w.heap.size, 0, none⟩), .pointer (some ⟨w.heap.size + 1, 0, none⟩)] (readBytesL L text) W1 (fun _ _ => by kernel_rfl) (fromBytes1_any b0 g L lc text w.heap.size (w.heap.size + 1) _ ?_ ?_ hl (hL.below hB3.size fun k hk => hB3.block k (by have := hL.le; omega)) hlc)).mono ?_
    · rw [cell_row ((hB2.block _ (by omega)).trans q0)]; rfl
    · rw [cell_row ((hB2.block _ (by omega)).trans q1)]; rfl
    · rintro e w' ⟨⟨sc, sa, vc, sls, lvs, hr, rfl, hS⟩ | ⟨hr, rfl⟩, hb⟩
      · exact ⟨Or.inl ⟨sc, sa, vc, sls, lvs, hr, rfl, hS.base (by omega)⟩, hB1.trans (hb.mono (by omega))⟩
      · exact ⟨Or.inr ⟨hr, rfl⟩, hB1.trans (hb.mono (by omega))⟩
  rw [hW1] at HA
  clear hL hB1 hs1 q0 q1 hW1
  generalize L.length = n at HA hlc ⊢
  generalize readBytesL L text = r at HA ⊢
  have hmf : ∀ (fn : Fn) (first cap : Array Value) (w : World), (Instr.makeFunc fn first cap).run Tryz.prog w = .ok (.func fn first cap) w := fun _ _ _ _ => rfl
  go_enter Tryz.func57, Tryz.ntmps57
  go_wp2_with fail
  refine Calls.mono HA.out ?_
  rintro e w1 ⟨⟨sc, sa, vc, sls, lvs, hr, rfl, hS⟩ | ⟨hr, rfl⟩, hb⟩
  · go_wp2_with fail
    go_ret2
    exact ⟨Or.inl ⟨sc, sa, vc, sls, lvs, hr, rfl, hS⟩, hb⟩
  · go_wp2_with fail
    go_ret2
    exact ⟨Or.inr ⟨hr, rfl⟩, hb⟩

end Go.Proofs.YthkbeaffkcfgiabGreatDoor

namespace Go.Proofs.YthkbeaffkcfgiabGreatDoor
open Go.RowKit

theorem orEmpty_some (b : Nat) (w : World) : Calls Tryz.prog 47 #[.pointer (some ⟨b, 0, none⟩)] w fun e w' => e = .returned (.pointer (some ⟨b, 0, none⟩)) ∧ w' = w := by
  go_enter Tryz.func47, Tryz.ntmps47
  go_wp2
  go_ret
  exact ⟨rfl, rfl⟩

set_option maxHeartbeats 1600000 in
/-- Load of what is no scene. -/
theorem load_bad (b b0 g lc : Nat) (L : List CompS) (text : List UInt8) (w : World) (hl : text.length ≤ 2 ^ 40) (hG : Glob w) (hL : LayN w b0 g L) (hlc : L.length ≤ lc) (c0 : w.cell? ⟨b, 0, none⟩ = some (.slice (some ⟨g, 0, none⟩) L.length lc)) (hno : readTextL L text = none) :
    Calls Tryz.prog 21 #[.pointer (some ⟨b, 0, none⟩), .string (mk text)] w fun e w' => e = .returned (.tuple #[.slice none 0 0, .int .i64 10]) ∧ Below w.heap.size w w' := by
  have HO : Hid _ := orEmpty_some b w
  have HF : Hid (Calls Tryz.prog 55 #[.string (mk text), .slice (some ⟨g, 0, none⟩) L.length lc] w fun e w' => e = .returned (.tuple #[.slice none 0 0, .bool false]) ∧ Below w.heap.size w w') := by
    refine (fromText_any b0 g L lc text w hl hG hL hlc).mono ?_
    rintro e w' ⟨⟨sc, _, _, _, _, h, _⟩ | ⟨_, rfl⟩, hb⟩
    · rw [hno] at h; cases h
    · exact ⟨rfl, hb⟩
  generalize L.length = n at HF c0 hlc
  clear hG hL hno
  go_enter Tryz.func21, Tryz.ntmps21
  go_wp2_with fail
  refine Calls.mono HO.out ?_
  rintro e w1 ⟨rfl, h1⟩
  obtain rfl := h1.symm
  go_wp2_with fail
  refine Calls.mono HF.out ?_
  rintro e w2 ⟨rfl, hb2⟩
  go_wp2_with fail
  go_ret2
  exact ⟨rfl, hb2⟩

set_option maxHeartbeats 1600000 in
/-- Load of a scene: as its entities settle. -/
theorem load_ok (b b0 g lc : Nat) (L : List CompS) (text : List UInt8) (w : World) (hl : text.length ≤ 2 ^ 40) (hG : Glob w) (hL : LayN w b0 g L) (hlc : L.length ≤ lc) (c0 : w.cell? ⟨b, 0, none⟩ = some (.slice (some ⟨g, 0, none⟩) L.length lc)) (sc : List Ent) (hsc : readTextL L text = some sc) (Q : Value → Value → World → Prop)
    (hset : ∀ sa vc sls lvs w1, Below w.heap.size w w1 → SceneOwn w1 w.heap.size (.slice sa sc.length vc) sc sls lvs → Calls Tryz.prog 56 #[.pointer (some ⟨b, 0, none⟩), .slice sa sc.length vc] w1 fun e w' => ∃ v n, e = .returned (.tuple #[v, .int .i64 n]) ∧ Q v (.int .i64 n) w') :
    Calls Tryz.prog 21 #[.pointer (some ⟨b, 0, none⟩), .string (mk text)] w fun e w' => ∃ v n, e = .returned (.tuple #[v, .int .i64 n]) ∧ Q v (.int .i64 n) w' := by
  have HO : Hid _ := orEmpty_some b w
  have HF : Hid (Calls Tryz.prog 55 #[.string (mk text), .slice (some ⟨g, 0, none⟩) L.length lc] w fun e w' => ∃ sa vc sls lvs, e = .returned (.tuple #[.slice sa sc.length vc, .bool true]) ∧ SceneOwn w' w.heap.size (.slice sa sc.length vc) sc sls lvs ∧ Below w.heap.size w w') := by
    refine (fromText_any b0 g L lc text w hl hG hL hlc).mono ?_
    rintro e w' ⟨⟨sc', sa, vc, sls, lvs, h, rfl, hS⟩ | ⟨h, _⟩, hb⟩
    · rw [hsc] at h; cases h; exact ⟨sa, vc, sls, lvs, rfl, hS, hb⟩
    · rw [hsc] at h; cases h
  have HSet : Hid _ := hset
  generalize L.length = n at HF c0 hlc
  clear hG hL hsc hset
  go_enter Tryz.func21, Tryz.ntmps21
  go_wp2_with fail
  refine Calls.mono HO.out ?_
  rintro e w1 ⟨rfl, h1⟩
  obtain rfl := h1.symm
  go_wp2_with fail
  refine Calls.mono HF.out ?_
  rintro e w2 ⟨sa, vc, sls, lvs, rfl, hS, hb2⟩
  have HS2 : Hid _ := HSet.out sa vc sls lvs w2 hb2 hS
  clear hS
  go_wp2_with fail
  refine Calls.mono HS2.out ?_
  rintro e w3 ⟨v, m, rfl, hQ⟩
  have HQ : Hid (Q v (.int .i64 m) w3) := hQ
  clear hQ
  go_wp2_with fail
  go_ret2
  exact ⟨v, m, rfl, HQ.out⟩

set_option maxHeartbeats 1600000 in
/-- Unpack of what is no scene. -/
theorem unpack_bad (b b0 g lc : Nat) (L : List CompS) (text : List UInt8) (w : World) (hl : text.length ≤ 2 ^ 40) (hL : LayN w b0 g L) (hlc : L.length ≤ lc) (c0 : w.cell? ⟨b, 0, none⟩ = some (.slice (some ⟨g, 0, none⟩) L.length lc)) (hno : readBytesL L text = none) :
    Calls Tryz.prog 22 #[.pointer (some ⟨b, 0, none⟩), .string (mk text)] w fun e w' => e = .returned (.tuple #[.slice none 0 0, .int .i64 10]) ∧ Below w.heap.size w w' := by
  have HO : Hid _ := orEmpty_some b w
  have HF : Hid (Calls Tryz.prog 57 #[.string (mk text), .slice (some ⟨g, 0, none⟩) L.length lc] w fun e w' => e = .returned (.tuple #[.slice none 0 0, .bool false]) ∧ Below w.heap.size w w') := by
    refine (fromBytes_any b0 g L lc text w hl hL hlc).mono ?_
    rintro e w' ⟨⟨sc, _, _, _, _, h, _⟩ | ⟨_, rfl⟩, hb⟩
    · rw [hno] at h; cases h
    · exact ⟨rfl, hb⟩
  generalize L.length = n at HF c0 hlc
  clear hL hno
  go_enter Tryz.func22, Tryz.ntmps22
  go_wp2_with fail
  refine Calls.mono HO.out ?_
  rintro e w1 ⟨rfl, h1⟩
  obtain rfl := h1.symm
  go_wp2_with fail
  refine Calls.mono HF.out ?_
  rintro e w2 ⟨rfl, hb2⟩
  go_wp2_with fail
  go_ret2
  exact ⟨rfl, hb2⟩

set_option maxHeartbeats 1600000 in
/-- Unpack of a scene: as its entities settle. -/
theorem unpack_ok (b b0 g lc : Nat) (L : List CompS) (text : List UInt8) (w : World) (hl : text.length ≤ 2 ^ 40) (hL : LayN w b0 g L) (hlc : L.length ≤ lc) (c0 : w.cell? ⟨b, 0, none⟩ = some (.slice (some ⟨g, 0, none⟩) L.length lc)) (sc : List Ent) (hsc : readBytesL L text = some sc) (Q : Value → Value → World → Prop)
    (hset : ∀ sa vc sls lvs w1, Below w.heap.size w w1 → SceneOwn w1 w.heap.size (.slice sa sc.length vc) sc sls lvs → Calls Tryz.prog 56 #[.pointer (some ⟨b, 0, none⟩), .slice sa sc.length vc] w1 fun e w' => ∃ v n, e = .returned (.tuple #[v, .int .i64 n]) ∧ Q v (.int .i64 n) w') :
    Calls Tryz.prog 22 #[.pointer (some ⟨b, 0, none⟩), .string (mk text)] w fun e w' => ∃ v n, e = .returned (.tuple #[v, .int .i64 n]) ∧ Q v (.int .i64 n) w' := by
  have HO : Hid _ := orEmpty_some b w
  have HF : Hid (Calls Tryz.prog 57 #[.string (mk text), .slice (some ⟨g, 0, none⟩) L.length lc] w fun e w' => ∃ sa vc sls lvs, e = .returned (.tuple #[.slice sa sc.length vc, .bool true]) ∧ SceneOwn w' w.heap.size (.slice sa sc.length vc) sc sls lvs ∧ Below w.heap.size w w') := by
    refine (fromBytes_any b0 g L lc text w hl hL hlc).mono ?_
    rintro e w' ⟨⟨sc', sa, vc, sls, lvs, h, rfl, hS⟩ | ⟨h, _⟩, hb⟩
    · rw [hsc] at h; cases h; exact ⟨sa, vc, sls, lvs, rfl, hS, hb⟩
    · rw [hsc] at h; cases h
  have HSet : Hid _ := hset
  generalize L.length = n at HF c0 hlc
  clear hL hsc hset
  go_enter Tryz.func22, Tryz.ntmps22
  go_wp2_with fail
  refine Calls.mono HO.out ?_
  rintro e w1 ⟨rfl, h1⟩
  obtain rfl := h1.symm
  go_wp2_with fail
  refine Calls.mono HF.out ?_
  rintro e w2 ⟨sa, vc, sls, lvs, rfl, hS, hb2⟩
  have HS2 : Hid _ := HSet.out sa vc sls lvs w2 hb2 hS
  clear hS
  go_wp2_with fail
  refine Calls.mono HS2.out ?_
  rintro e w3 ⟨v, m, rfl, hQ⟩
  have HQ : Hid (Q v (.int .i64 m) w3) := hQ
  clear hQ
  go_wp2_with fail
  go_ret2
  exact ⟨v, m, rfl, HQ.out⟩

end Go.Proofs.YthkbeaffkcfgiabGreatDoor

namespace Go.Proofs.YthkbeaffkcfgiabGreatDoor
open Go.RowKit

def svZ : SV := ⟨1, 0, [], []⟩
/-- A value of an entity. -/
def valAt (sc : List Ent) (k f i : Nat) : SV := ((entAt sc i).vs.getD k []).getD f svZ
def colTx (sc : List Ent) (ws : List Nat) (k f q : Nat) : List UInt8 := (List.range q).flatMap fun j => packTx (valAt sc k f (ws.getD j 0))
def colsTx (sc : List Ent) (ws : List Nat) (k q : Nat) : List UInt8 := (List.range q).flatMap fun f => colTx sc ws k f ws.length
theorem colTx_succ (sc : List Ent) (ws : List Nat) (k f q : Nat) : colTx sc ws k f (q + 1) = colTx sc ws k f q ++ packTx (valAt sc k f (ws.getD q 0)) := by
  unfold colTx
  rw [List.range_succ, List.flatMap_append]
  simp
theorem colsTx_succ (sc : List Ent) (ws : List Nat) (k q : Nat) : colsTx sc ws k (q + 1) = colsTx sc ws k q ++ colTx sc ws k q ws.length := by
  unfold colsTx
  rw [List.range_succ, List.flatMap_append]
  simp
/-- Do the entities that are told have such values? -/
def ColFit (sc : List Ent) (ws : List Nat) (k nf : Nat) : Prop := ∀ j, j < ws.length → ws.getD j 0 < sc.length ∧ ((entAt sc (ws.getD j 0)).vs.getD k []).length = nf ∧ ∀ f, f < nf → SVOk (valAt sc k f (ws.getD j 0)) ∧ ((valAt sc k f (ws.getD j 0)).k = 2 → 0 ≤ (valAt sc k f (ws.getD j 0)).n)

set_option maxHeartbeats 1600000 in
set_option maxRecDepth 20000 in
theorem appendColumns_any (sc : List Ent) (sls : Nat → Nat → Value) (lvs : Nat → Nat → List Value) (sv : Value) (v : Value) (l : List UInt8) (k nf : Nat) (ws : List Nat) (wv : Value) (w0 w : World) (hS : SceneOwn w0 0 sv sc sls lvs) (hsc : sc.length ≤ 20) (hk6 : k < 6) (hnf : nf ≤ 4) (hF : ColFit sc ws k nf) (hn : ws.length ≤ 20) (hWv : w.ownsRow 0 3 1 wv ws.length (whoC ws)) (hb : Kp w0.heap.size w0 w) (hT : TxAt w w0.heap.size v l) (hl : l.length ≤ 600000) :
    Calls Tryz.prog 151 #[sv, v, .int .i64 (k : Int), .int .i64 (nf : Int), wv] w (WEnds w w0.heap.size l (colsTx sc ws k nf)) := by
  obtain ⟨B, hB⟩ : ∃ B, B = w0.heap.size := ⟨_, rfl⟩
  rw [← hB] at hb hT ⊢
  have hBw : B ≤ w.heap.size := by rw [hB]; exact hb.size
  obtain ⟨a, c, rfl⟩ := hT.form
  obtain ⟨wa, wc, rfl⟩ := own_form hWv
  obtain ⟨va, vc, rfl⟩ := own_form hS.row
  obtain ⟨n, hnl⟩ : ∃ n, n = l.length := ⟨_, rfl⟩
  obtain ⟨z, hz⟩ : ∃ z, z = ws.length := ⟨_, rfl⟩
  obtain ⟨y, hy⟩ : ∃ y, y = sc.length := ⟨_, rfl⟩
  rw [← hz] at hWv hn ⊢
  rw [← hy] at hsc ⊢
  have HX0 : Hid (TxAt w B (.slice a l.length c) l) := hT
  rw [← hnl] at hl HX0 ⊢
  have HN : Hid (n = l.length) := hnl
  have HZ : Hid (z = ws.length) := hz
  have HY : Hid (y = sc.length) := hy
  have HF : Hid (ColFit sc ws k nf) := hF
  have HWv : Hid (w.ownsRow 0 3 1 (.slice wa z wc) z (whoC ws)) := hWv
  have HBw : Hid (B ≤ w.heap.size) := hBw
  have HB : Hid (B = w0.heap.size) := hB
  have Hb : Hid (Kp B w0 w) := hb
  have HS : Hid (SceneOwn w0 0 (.slice va sc.length vc) sc sls lvs) := hS
  clear hT hWv hnl hz hy hF hS hB hb hBw
  go_enter Tryz.func151, Tryz.ntmps151
  go_wp2_with fail
  go_loopw [1, 15] (fun x t wr => ∃ (f : Nat) (sa : Option Addr) (m pc : Nat) (acc : List UInt8), f ≤ nf ∧ t = .int .i64 f ∧ x = .slice sa m pc ∧ m ≤ 600000 + 4000 * f ∧ Hid (m = acc.length ∧ acc = l ++ colsTx sc ws k f) ∧ Hid (TxAt wr B (.slice sa m pc) acc ∧ Kp B w wr)) (fun _ t _ => nf - (intOf t).toNat)
  case atStart => exact ⟨0, a, n, c, l, by omega, rfl, rfl, by omega, ⟨HN.out, by simp [colsTx]⟩, ⟨HX0.out, Kp.refl _ _⟩⟩
  case round =>
    obtain ⟨f, sa, m, pc, acc, hf, rfl, rfl, hm, HA, HX⟩ := hrel
    by_cases hlf : f < nf
    · go_wp2_with fail
      go_loopw [1, 20] (fun x t wr' => ∃ (q : Nat) (sa : Option Addr) (m pc : Nat) (acc : List UInt8), q ≤ z ∧ t = .int .i64 q ∧ x = .slice sa m pc ∧ m ≤ 600000 + 4000 * f + 200 * q ∧ Hid (m = acc.length ∧ acc = l ++ colsTx sc ws k f ++ colTx sc ws k f q) ∧ Hid (TxAt wr' B (.slice sa m pc) acc ∧ Kp B w wr')) (fun _ t _ => z - (intOf t).toNat)
      case atStart => exact ⟨0, sa, m, pc, acc, by omega, rfl, rfl, by omega, ⟨HA.out.1, by rw [HA.out.2]; simp [colTx]⟩, HX⟩
      case round =>
        obtain ⟨q, sa2, m2, pc2, acc2, hq, rfl, rfl, hm2, HA2, HX2⟩ := hrel
        by_cases hlt : q < z
        · obtain ⟨gl, hla, el, hlc⟩ := who_cell HWv.out HZ.out HX2.out.2 q hlt
          subst hla
          obtain ⟨hi, hvl, hvo⟩ := HF.out q (by rw [← HZ.out]; exact hlt)
          have hsu := colTx_succ sc ws k f q
          have hvo2 := hvo f hlf
          generalize hie : ws.getD q 0 = i at el hi hvl hvo2 hsu
          have hwr : B ≤ wr.heap.size := Nat.le_trans HBw.out HX2.out.2.size
          have hK : Kp B w0 wr := Hb.out.trans HX2.out.2
          obtain ⟨gs, cap, hgs, _, hgl, hcap, hcell⟩ := HS.out.cell i hi
          simp only [Value.slice.injEq] at hgs
          obtain ⟨rfl, _, rfl⟩ := hgs
          obtain ⟨gv, cap, lv, hva, hgv0, hgv, hcap2, hlv, hlo, hvc⟩ := ((HS.out.ents i hi).2.2 k hk6).cell f (by rw [hvl]; exact hlf)
          have y0 : wr.cell? ⟨gs, i * 7 + 1 + k, none⟩ = some (.slice (some ⟨gv, 0, none⟩) nf cap) := by
            rw [World.cell?_of_block (a := ⟨gs, i * 7 + 1 + k, none⟩) (hK.block gs (by rw [HB.out]; exact hgl)), Nat.add_assoc, hcell (1 + k) (by omega)]
            have e : k = 0 ∨ k = 1 ∨ k = 2 ∨ k = 3 ∨ k = 4 ∨ k = 5 := by omega
            rw [hvl] at hva
            rcases e with rfl | rfl | rfl | rfl | rfl | rfl <;> rw [← hva] <;> rfl
          have hv0 : ((entAt sc i).vs.getD k [])[f]'(by rw [hvl]; exact hlf) = valAt sc k f i := by unfold valAt; rw [List.getD_eq_getElem?_getD (i := f), List.getElem?_eq_getElem (by rw [hvl]; exact hlf)]; rfl
          rw [hv0] at hlo hvc
          generalize hxe : valAt sc k f i = x at hlo hvc hsu hvo2
          have hk2 : ∀ o, wr.cell? ⟨gv, o, none⟩ = w0.cell? ⟨gv, o, none⟩ := fun o => World.cell?_of_block (a := ⟨gv, o, none⟩) (hK.block gv (by rw [HB.out]; exact hgv))
          have z0 : wr.cell? ⟨gv, f * 6, none⟩ = some (.int .i64 x.k) := (hk2 _).trans (hvc 0 (by omega))
          have z1 : wr.cell? ⟨gv, f * 6 + 1, none⟩ = some (.int .i64 x.n) := (hk2 _).trans (hvc 1 (by omega))
          have z2 : wr.cell? ⟨gv, f * 6 + 2, none⟩ = some (.string (mk x.s)) := (hk2 _).trans (hvc 2 (by omega))
          have z3 : wr.cell? ⟨gv, f * 6 + 3, none⟩ = some (.int .i64 0) := (hk2 _).trans (hvc 3 (by omega))
          have z4 : wr.cell? ⟨gv, f * 6 + 4, none⟩ = some (.int .i64 0) := (hk2 _).trans (hvc 4 (by omega))
          have z5 : wr.cell? ⟨gv, f * 6 + 5, none⟩ = some lv := (hk2 _).trans (hvc 5 (by omega))
          have hlo2 : wr.ownsRow 0 3 1 lv x.l.length (x.l.map (Value.int .i64)) := own_turn hlo fun j hj hjl => hK.block j (by rw [HB.out]; exact hjl)
          obtain ⟨la, lc, hlvf⟩ := own_form hlo2
          have HC8 : Hid (Calls Tryz.prog 217 #[.slice sa2 m2 pc2, .agg #[.int .i64 x.k, .int .i64 x.n, .string (mk x.s), .int .i64 0, .int .i64 0, lv]] wr (WEnds wr B acc2 (packTx x))) := appendPacked_any B _ acc2 x lv wr hvo2.1 hvo2.2 hlo2 HX2.out.1 hwr (by rw [← HA2.out.1]; omega)
          have hil := packTx_len x hvo2.1.text hvo2.1.few
          have HE : Hid (acc2 ++ packTx x = l ++ colsTx sc ws k f ++ colTx sc ws k f (q + 1)) := by show _ = _; rw [hsu, HA2.out.2]; simp
          have hiy : i < y := by rw [HY.out]; exact hi
          have hyc : y ≤ vc := by rw [HY.out]; exact hcap
          have hfc : nf ≤ cap := by rw [← hvl]; exact hcap2
          subst hlvf
          clear hlo hlo2 hvc hcell hva hk2 hv0 hsu hvo hvo2 hlv hxe hie hvl
          generalize packTx x = it at HE HC8 hil
          generalize x.l.length = xl at HC8 z5
          generalize (mk x.s) = xs at HC8 z2
          generalize x.n = xn at HC8 z1
          generalize ((x.k : Nat) : Int) = xk at HC8 z0
          go_wp2_with fail
          refine Calls.mono HC8.out ?_
          rintro e w9 ⟨v9, rfl, hT9, hb9⟩
          obtain ⟨a9, c9, rfl⟩ := hT9.form
          obtain ⟨m9, hm9⟩ : ∃ m9, m9 = (acc2 ++ it).length := ⟨_, rfl⟩
          rw [← hm9] at hT9 ⊢
          have h9 : m9 ≤ 600000 + 4000 * f + 200 * (q + 1) := by rw [hm9]; simp only [List.length_append, ← HA2.out.1]; omega
          have HA9 : Hid (m9 = (acc2 ++ it).length ∧ acc2 ++ it = l ++ colsTx sc ws k f ++ colTx sc ws k f (q + 1)) := ⟨hm9, HE.out⟩
          have HX9 : Hid (TxAt w9 B (.slice a9 m9 c9) (acc2 ++ it) ∧ Kp B w w9) := ⟨hT9, HX2.out.2.trans hb9⟩
          clear hT9 hb9 hm9
          go_wp2_with fail
          exact ⟨⟨q + 1, a9, m9, c9, acc2 ++ it, by omega, by go_num, rfl, h9, HA9, HX9⟩, by simp [intOf]; omega⟩
        · obtain rfl : q = z := by omega
          have HE : Hid (acc2 = l ++ colsTx sc ws k (f + 1)) := by show _ = _; rw [HA2.out.2, colsTx_succ, HZ.out]; simp
          go_wp2_with fail
          exact ⟨⟨f + 1, sa2, m2, pc2, acc2, by omega, by go_num, rfl, by omega, ⟨HA2.out.1, HE.out⟩, HX2⟩, by simp [intOf]; omega⟩
    · obtain rfl : f = nf := by omega
      go_wp2_with fail
      go_ret
      exact ⟨_, rfl, by rw [← HA.out.2]; unfold TxAt; rw [← HA.out.1]; have t := HX.out.1; unfold TxAt at t; rw [← HA.out.1] at t; exact t, HX.out.2⟩
end Go.Proofs.YthkbeaffkcfgiabGreatDoor

namespace Go.Proofs.YthkbeaffkcfgiabGreatDoor
open Go.RowKit

theorem colTx_len {sc : List Ent} {ws : List Nat} {k nf f : Nat} (h : ColFit sc ws k nf) (hf : f < nf) : ∀ q, q ≤ ws.length → (colTx sc ws k f q).length ≤ 200 * q
  | 0, _ => by simp [colTx]
  | q + 1, hq => by
    have ih := colTx_len h hf q (by omega)
    have h1 := ((h q (by omega)).2.2 f hf).1
    have h2 := packTx_len _ h1.text h1.few
    rw [colTx_succ, List.length_append]
    omega
theorem colsTx_len {sc : List Ent} {ws : List Nat} {k nf : Nat} (h : ColFit sc ws k nf) (hn : ws.length ≤ 20) : ∀ q, q ≤ nf → (colsTx sc ws k q).length ≤ 4000 * q
  | 0, _ => by simp [colsTx]
  | q + 1, hq => by
    have ih := colsTx_len h hn q (by omega)
    have h1 := colTx_len h (f := q) (by omega) ws.length (Nat.le_refl _)
    rw [colsTx_succ, List.length_append]
    omega
/-- The columns of the first components of a block. -/
def compsTx (L : List CompS) (sc : List Ent) (c : Nat) (ws : List Nat) (q : Nat) : List UInt8 := (List.range q).flatMap fun k => if c.testBit k then colsTx sc ws k (L.getD k ([], [])).2.length else []
theorem compsTx_succ (L : List CompS) (sc : List Ent) (c : Nat) (ws : List Nat) (q : Nat) : compsTx L sc c ws (q + 1) = compsTx L sc c ws q ++ (if c.testBit q then colsTx sc ws q (L.getD q ([], [])).2.length else []) := by
  unfold compsTx
  rw [List.range_succ, List.flatMap_append]
  simp
/-- A block. -/
def blockTx (L : List CompS) (sc : List Ent) (c : Nat) (ws : List Nat) : List UInt8 := sevTx 10 c ++ (sevTx 10 ws.length ++ (gapsTx ws ws.length ++ compsTx L sc c ws L.length))

set_option maxHeartbeats 1600000 in
set_option maxRecDepth 20000 in
theorem appendBlock_any (L : List CompS) (b0 g lc : Nat) (sc : List Ent) (sls : Nat → Nat → Value) (lvs : Nat → Nat → List Value) (sv : Value) (v : Value) (l : List UInt8) (c : Nat) (ws : List Nat) (wv : Value) (w0 w : World) (hL : LayN w0 b0 g L) (hlc : L.length ≤ lc) (hS : SceneOwn w0 0 sv sc sls lvs) (hsc : sc.length ≤ 20) (hc : c < 64) (hF : ∀ k (h : k < L.length), c.testBit k = true → ColFit sc ws k L[k].2.length) (hn : ws.length ≤ 20) (hr : Rises ws) (hWv : w.ownsRow 0 3 1 wv ws.length (whoC ws)) (hb : Kp w0.heap.size w0 w) (hT : TxAt w w0.heap.size v l) (hl : l.length ≤ 400000) :
    Calls Tryz.prog 101 #[sv, v, .slice (some ⟨g, 0, none⟩) L.length lc, .int .u64 (c : Int), wv] w (WEnds w w0.heap.size l (blockTx L sc c ws)) := by
  obtain ⟨B, hB⟩ : ∃ B, B = w0.heap.size := ⟨_, rfl⟩
  rw [← hB] at hb hT ⊢
  have hBw : B ≤ w.heap.size := by rw [hB]; exact hb.size
  obtain ⟨a, ca, rfl⟩ := hT.form
  obtain ⟨wa, wc, rfl⟩ := own_form hWv
  obtain ⟨va, vc, rfl⟩ := own_form hS.row
  obtain ⟨n, hnl⟩ : ∃ n, n = l.length := ⟨_, rfl⟩
  obtain ⟨z, hz⟩ : ∃ z, z = ws.length := ⟨_, rfl⟩
  obtain ⟨y, hy⟩ : ∃ y, y = sc.length := ⟨_, rfl⟩
  obtain ⟨m, hm⟩ : ∃ m, m = L.length := ⟨_, rfl⟩
  have hm6 : m ≤ 6 := by rw [hm]; exact hL.few
  rw [← hz] at hWv hn ⊢
  rw [← hy] at hsc ⊢
  rw [← hm] at hlc ⊢
  have hl1 := sevTx_len 10 c
  have hl2 := sevTx_len 10 z
  have hl3 := gapsTx_len ws ws.length
  rw [← hz] at hl3
  have HC1 : Hid (Calls Tryz.prog 99 #[.slice a l.length ca, .int .i64 (c : Int)] w (WEnds w B l (sevTx 10 c))) := appendCount_any B _ l c w (by omega) (Or.inl hT) hBw (by omega)
  rw [← hnl] at hl HC1 ⊢
  have HN : Hid (n = l.length) := hnl
  have HZ : Hid (z = ws.length) := hz
  have HY : Hid (y = sc.length) := hy
  have HM : Hid (m = L.length) := hm
  have HF : Hid (∀ k (h : k < L.length), c.testBit k = true → ColFit sc ws k L[k].2.length) := hF
  have HWv : Hid (∀ W, Kp B w W → W.ownsRow 0 3 1 (.slice wa z wc) z (whoC ws)) := fun W hk => by
    refine ⟨hWv.1, ?_⟩
    rcases hWv.2 with h | ⟨g', cap', cur, h1, h2, h3, h4, h5, h6, h7⟩
    · exact Or.inl h
    · exact Or.inr ⟨g', cap', cur, h1, h2, hk.kept h3 (by decide), h4, h5, h6, h7⟩
  have HBw : Hid (B ≤ w.heap.size) := hBw
  have HB : Hid (B = w0.heap.size) := hB
  have Hb : Hid (Kp B w0 w) := hb
  have HS : Hid (SceneOwn w0 0 (.slice va sc.length vc) sc sls lvs) := hS
  have HL : Hid (LayN w0 b0 g L) := hL
  have HR : Hid (Rises ws) := hr
  have hcw : IntKind.i64.wrap (c : Int) = (c : Int) := by rw [IntKind.wrap_i64]; omega
  have HBl : Hid (blockTx L sc c ws = sevTx 10 c ++ (sevTx 10 z ++ (gapsTx ws z ++ compsTx L sc c ws L.length))) := by show _ = _; unfold blockTx; rw [HZ.out]
  obtain ⟨t1, ht1⟩ : ∃ t1, t1 = sevTx 10 c := ⟨_, rfl⟩
  obtain ⟨t2, ht2⟩ : ∃ t2, t2 = sevTx 10 z := ⟨_, rfl⟩
  obtain ⟨t3, ht3⟩ : ∃ t3, t3 = gapsTx ws z := ⟨_, rfl⟩
  rw [← ht1, ← ht2, ← ht3] at HBl
  rw [← ht1] at HC1 hl1
  rw [← ht2] at hl2
  rw [← ht3] at hl3
  have HT2 : Hid (t2 = sevTx 10 z) := ht2
  have HT3 : Hid (t3 = gapsTx ws z) := ht3
  clear hT hWv hnl hz hy hm hF hS hB hb hBw hL hr ht1 ht2 ht3
  go_enter Tryz.func101, Tryz.ntmps101
  go_wp2_with fail
  refine Calls.mono HC1.out ?_
  rintro e w1 ⟨v1, rfl, hT1, hb1⟩
  obtain ⟨a1, c1, rfl⟩ := hT1.form
  have hm1 : (l ++ t1).length ≤ 400011 := by rw [List.length_append, ← HN.out]; omega
  have HC2 : Hid (Calls Tryz.prog 99 #[.slice a1 (l ++ t1).length c1, .int .i64 (z : Int)] w1 (WEnds w1 B (l ++ t1) t2)) := by rw [HT2.out]; exact appendCount_any B _ (l ++ t1) z w1 (by omega) (Or.inl hT1) (Nat.le_trans HBw.out hb1.size) (by omega)
  have Hb1 : Hid (Kp B w w1) := hb1
  clear hT1 hb1
  generalize (l ++ t1).length = m1 at HC2 hm1 ⊢
  go_wp2_with fail
  refine Calls.mono HC2.out ?_
  rintro e w2 ⟨v2, rfl, hT2, hb2⟩
  obtain ⟨a2, c2, rfl⟩ := hT2.form
  have hm2 : (l ++ t1 ++ t2).length ≤ 400022 := by rw [List.length_append, List.length_append, ← HN.out]; omega
  have Hb2 : Hid (Kp B w w2) := Hb1.out.trans hb2
  have HC3 : Hid (Calls Tryz.prog 150 #[.slice a2 (l ++ t1 ++ t2).length c2, .slice wa z wc] w2 (WEnds w2 B (l ++ t1 ++ t2) t3)) := by
    rw [HT3.out]
    have h := HWv.out w2 Hb2.out
    rw [HZ.out] at h ⊢
    exact appendGaps_any B _ (l ++ t1 ++ t2) ws _ w2 HR.out (by rw [← HZ.out]; exact hn) h hT2 (Nat.le_trans HBw.out Hb2.out.size) (by omega)
  clear hT2 hb2
  generalize (l ++ t1 ++ t2).length = m2 at HC3 hm2 ⊢
  go_wp2_with fail
  refine Calls.mono HC3.out ?_
  rintro e w3 ⟨v3, rfl, hT3, hb3⟩
  obtain ⟨a3, c3, rfl⟩ := hT3.form
  have hm3 : (l ++ t1 ++ t2 ++ t3).length ≤ 400022 + 220 := by rw [List.length_append, List.length_append, List.length_append, ← HN.out]; omega
  have HX3 : Hid (TxAt w3 B (.slice a3 (l ++ t1 ++ t2 ++ t3).length c3) (l ++ t1 ++ t2 ++ t3) ∧ Kp B w w3) := ⟨hT3, Hb2.out.trans hb3⟩
  clear hT3 hb3
  obtain ⟨m3, hm3e⟩ : ∃ m3, m3 = (l ++ t1 ++ t2 ++ t3).length := ⟨_, rfl⟩
  rw [← hm3e] at HX3 hm3 ⊢
  have HM3 : Hid (m3 = (l ++ t1 ++ t2 ++ t3).length) := hm3e
  clear hm3e
  go_wp2_with fail
  go_loopw [1, 26] (fun x t wr => ∃ (q : Nat) (sa : Option Addr) (p pc : Nat) (acc : List UInt8), q ≤ m ∧ t = .int .i64 q ∧ x = .slice sa p pc ∧ p ≤ 400242 + 16000 * q ∧ Hid (p = acc.length ∧ acc = l ++ t1 ++ t2 ++ t3 ++ compsTx L sc c ws q) ∧ Hid (TxAt wr B (.slice sa p pc) acc ∧ Kp B w wr)) (fun _ t _ => m - (intOf t).toNat)
  case atStart => exact ⟨0, a3, m3, c3, l ++ t1 ++ t2 ++ t3, by omega, rfl, rfl, by omega, ⟨HM3.out, by simp [compsTx]⟩, HX3⟩
  case round =>
    obtain ⟨q, sa, p, pc, acc, hq, rfl, rfl, hp, HA, HX⟩ := hrel
    have hwr : B ≤ wr.heap.size := Nat.le_trans HBw.out HX.out.2.size
    by_cases hlt : q < m
    · have hql : q < L.length := by rw [← HM.out]; exact hlt
      have hq6 : q < 6 := by omega
      have hK : Kp B w0 wr := Hb.out.trans HX.out.2
      obtain ⟨hok, k0, fs, k1, hfs, hfb⟩ := HL.out.comp q hql
      have hgl : g < B := by rw [HB.out]; exact Nat.lt_of_lt_of_le HL.out.lt HL.out.le
      have y0 : wr.cell? ⟨g, q * 2, none⟩ = some (.string (mk L[q].1)) := (World.cell?_of_block (a := ⟨g, q * 2, none⟩) (hK.block g hgl)).trans k0
      have y1 : wr.cell? ⟨g, q * 2 + 1, none⟩ = some fs := (World.cell?_of_block (a := ⟨g, q * 2 + 1, none⟩) (hK.block g hgl)).trans k1
      have hgd : L.getD q ([], []) = L[q] := by simp [List.getD, hql]
      obtain ⟨fa, fc, rfl⟩ := hfs.form
      have hnf : L[q].2.length ≤ 4 := hok.2.1
      clear k0 k1
      cases ht : c.testBit q with
      | false =>
        have HE2 : Hid (acc = l ++ t1 ++ t2 ++ t3 ++ compsTx L sc c ws (q + 1)) := by show _ = _; rw [compsTx_succ, ht, HA.out.2]; simp
        clear hgd
        generalize L[q].1 = nm at y0
        generalize L[q].2.length = fn at y1
        go_wp2_with (go_at_call 66; refine (has_any c q _ hc hq6).mono ?_; rw [ht]; rintro e w' ⟨rfl, rfl⟩)
        exact ⟨⟨q + 1, sa, p, pc, acc, by omega, by go_num, rfl, by omega, ⟨HA.out.1, HE2.out⟩, ⟨World.ownsRow.alloc HX.out.1 _, HX.out.2.alloc hwr _⟩⟩, by simp [intOf]; omega⟩
      | true =>
        have hfit := HF.out q hql ht
        have hll := colsTx_len hfit (by rw [← HZ.out]; exact hn) L[q].2.length (Nat.le_refl _)
        have HE2 : Hid (acc ++ colsTx sc ws q L[q].2.length = l ++ t1 ++ t2 ++ t3 ++ compsTx L sc c ws (q + 1)) := by show _ = _; rw [compsTx_succ, ht, HA.out.2, hgd]; simp
        have HC : Hid (∀ W, Kp B wr W → TxAt W B (.slice sa p pc) acc → Calls Tryz.prog 151 #[.slice va y vc, .slice sa p pc, .int .i64 (q : Int), .int .i64 (L[q].2.length : Int), .slice wa z wc] W (WEnds W B acc (colsTx sc ws q L[q].2.length))) := fun W hW hT => by
          have h := HWv.out W (HX.out.2.trans hW)
          rw [HZ.out] at h ⊢
          rw [HY.out, HB.out]
          rw [HB.out] at hT hW hK
          exact appendColumns_any sc sls lvs _ _ acc q L[q].2.length ws _ w0 W HS.out (by rw [← HY.out]; exact hsc) hq6 hnf hfit (by rw [← HZ.out]; exact hn) h (hK.trans hW) hT (by rw [← HA.out.1]; omega)
        clear hgd hfs hok hfb hK hfit
        generalize colsTx sc ws q L[q].2.length = tx at hll HE2 HC
        generalize L[q].1 = nm at y0
        generalize L[q].2.length = fn at y1 HC hnf hll
        go_wp2_with (first
          | (go_at_call 66; refine (has_any c q _ hc hq6).mono ?_; rw [ht]; rintro e w' ⟨rfl, rfl⟩)
          | (go_at_call 151; refine (HC.out _ ((Kp.refl _ _).alloc hwr _) (World.ownsRow.alloc HX.out.1 _)).mono ?_; rintro e w8 ⟨v8, rfl, hT8, hb8⟩; obtain ⟨a8, c8, rfl⟩ := hT8.form; obtain ⟨m8, hm8⟩ : ∃ m8, m8 = (acc ++ tx).length := ⟨_, rfl⟩; rw [← hm8] at hT8 ⊢; have h8 : m8 ≤ 400242 + 16000 * (q + 1) := (by rw [hm8, List.length_append, ← HA.out.1]; omega); have HA8 : Hid (m8 = (acc ++ tx).length ∧ acc ++ tx = l ++ t1 ++ t2 ++ t3 ++ compsTx L sc c ws (q + 1)) := ⟨hm8, HE2.out⟩; have HX8 : Hid (TxAt w8 B (.slice a8 m8 c8) (acc ++ tx) ∧ Kp B w w8) := ⟨hT8, (HX.out.2.trans ((Kp.refl _ _).alloc hwr _)).trans hb8⟩; clear hT8 hb8 hm8))
        exact ⟨⟨q + 1, a8, m8, c8, acc ++ tx, by omega, by go_num, rfl, h8, HA8, HX8⟩, by simp [intOf]; omega⟩
    · obtain rfl : q = m := by omega
      have HE : Hid (l ++ blockTx L sc c ws = acc) := by show _ = _; rw [HBl.out, HA.out.2, HM.out]; simp
      go_wp2_with fail
      go_ret
      exact ⟨_, rfl, by rw [HE.out]; unfold TxAt; rw [← HA.out.1]; have t := HX.out.1; unfold TxAt at t; rw [← HA.out.1] at t; exact t, HX.out.2⟩
end Go.Proofs.YthkbeaffkcfgiabGreatDoor

namespace Go.Proofs.YthkbeaffkcfgiabGreatDoor
open Go.RowKit

theorem shl_seven : ∀ k : Fin 7, IntKind.u64.wrap (2 ^ k.val) = ((2 ^ k.val : Nat) : Int) ∧ 2 ^ k.val ≤ 64 := by decide +kernel
theorem whoL_rises (sc : List Ent) (c n : Nat) (hn : n ≤ 1000) : Rises (whoL sc c n) := fun k hk => by
  have hs : (whoL sc c n).Pairwise (· < ·) := List.Pairwise.filter _ List.pairwise_lt_range
  have hm := whoL_lt sc c n _ (List.getElem_mem hk)
  have hg : (whoL sc c n).getD k 0 = (whoL sc c n)[k] := by simp [List.getD, hk]
  rw [hg]
  refine ⟨?_, by omega⟩
  match k, hk with
  | 0, _ => exact Nat.zero_le _
  | k + 1, hk =>
    have h1 := List.pairwise_iff_getElem.1 hs k (k + 1) (by omega) hk (by omega)
    have hg2 : (whoL sc c n).getD k 0 = (whoL sc c n)[k] := by simp [List.getD, Nat.lt_of_succ_lt hk]
    show (whoL sc c n).getD k 0 + 1 ≤ _
    rw [hg2]
    exact h1
/-- How many entities have a set below this one? -/
def cntW (sc : List Ent) (n c : Nat) : Nat := (List.range n).countP fun j => decide ((entAt sc j).c < c)
theorem cnt_split (f : Nat → Nat) (c : Nat) : ∀ xs : List Nat, xs.countP (fun j => decide (f j < c + 1)) = xs.countP (fun j => decide (f j < c)) + (xs.filter fun j => f j == c).length
  | [] => rfl
  | x :: xs => by
    have ih := cnt_split f c xs
    rw [List.countP_cons, List.countP_cons, List.filter_cons]
    by_cases h : f x = c
    · simp [h]; omega
    · by_cases h2 : f x < c
      · have h3 : f x < c + 1 := by omega
        simp [h, h2, h3]; omega
      · have h3 : ¬ f x < c + 1 := by omega
        simp [h, h2, h3]; omega
theorem cntW_succ (sc : List Ent) (n c : Nat) : cntW sc n (c + 1) = cntW sc n c + (whoL sc c n).length := cnt_split _ _ _
theorem cntW_le (sc : List Ent) (n c : Nat) : cntW sc n c ≤ n := by
  have h := List.countP_le_length (p := fun j => decide ((entAt sc j).c < c)) (l := List.range n)
  rw [List.length_range] at h
  exact h
/-- Does an entity fit, as far as its packing asks? -/
def EntK (L : List CompS) (e : Ent) : Prop := EntW L e ∧ ∀ k x, k < L.length → e.c.testBit k = true → x ∈ e.vs.getD k [] → x.k = 2 → 0 ≤ x.n
theorem colFit_of {L : List CompS} {sc : List Ent} {c : Nat} (h : ∀ j, j < sc.length → EntK L (entAt sc j)) (k : Nat) (hk : k < L.length) (ht : c.testBit k = true) : ColFit sc (whoL sc c sc.length) k L[k].2.length := fun j hj => by
  have hm := whoL_lt sc c sc.length _ (List.getElem_mem hj)
  have hg : (whoL sc c sc.length).getD j 0 = (whoL sc c sc.length)[j] := by simp [List.getD, hj]
  rw [hg]
  generalize (whoL sc c sc.length)[j] = i at hm
  obtain ⟨h1, h2⟩ := h i hm.1
  rw [← hm.2] at ht
  have h3 := h1.2 k hk ht
  refine ⟨hm.1, h3.1, fun f hf => ?_⟩
  have hin : valAt sc k f i ∈ (entAt sc i).vs.getD k [] := by
    unfold valAt
    rw [List.getD_eq_getElem?_getD (i := f), List.getElem?_eq_getElem (by rw [h3.1]; exact hf)]
    exact List.getElem_mem _
  exact ⟨h3.2 _ hin, h2 k _ hk ht hin⟩
theorem colTxs_len {sc : List Ent} {ws : List Nat} {k nf : Nat} (h : ColFit sc ws k nf) : ∀ q, q ≤ nf → (colsTx sc ws k q).length ≤ 200 * ws.length * q
  | 0, _ => by simp [colsTx]
  | q + 1, hq => by
    have ih := colTxs_len h q (by omega)
    have h1 := colTx_len h (f := q) (by omega) ws.length (Nat.le_refl _)
    rw [colsTx_succ, List.length_append, Nat.mul_add]
    omega
theorem compsTx_len {L : List CompS} {sc : List Ent} {c : Nat} {ws : List Nat} (hF : ∀ k (h : k < L.length), c.testBit k = true → ColFit sc ws k L[k].2.length) (hL : ∀ k (h : k < L.length), L[k].2.length ≤ 4) : ∀ q, q ≤ L.length → (compsTx L sc c ws q).length ≤ 800 * ws.length * q
  | 0, _ => by simp [compsTx]
  | q + 1, hq => by
    have ih := compsTx_len hF hL q (by omega)
    have hql : q < L.length := by omega
    have hgd : L.getD q ([], []) = L[q] := by simp [List.getD, hql]
    rw [compsTx_succ, List.length_append, hgd, Nat.mul_add]
    cases ht : c.testBit q with
    | false => simp; omega
    | true =>
      have h1 := colTxs_len (hF q hql ht) L[q].2.length (Nat.le_refl _)
      have h2 : 200 * ws.length * L[q].2.length ≤ 200 * ws.length * 4 := Nat.mul_le_mul_left _ (hL q hql)
      simp only [if_true]
      omega
theorem blockTx_len {L : List CompS} {sc : List Ent} {c : Nat} {ws : List Nat} (hF : ∀ k (h : k < L.length), c.testBit k = true → ColFit sc ws k L[k].2.length) (hL : ∀ k (h : k < L.length), L[k].2.length ≤ 4) (h6 : L.length ≤ 6) : (blockTx L sc c ws).length ≤ 22 + 5000 * ws.length := by
  have h1 := compsTx_len hF hL L.length (Nat.le_refl _)
  have h2 := gapsTx_len ws ws.length
  have h3 := sevTx_len 10 c
  have h4 := sevTx_len 10 ws.length
  have h5 : 800 * ws.length * L.length ≤ 800 * ws.length * 6 := Nat.mul_le_mul_left _ h6
  simp only [blockTx, List.length_append]
  omega
/-- The blocks of the sets below `q`. -/
def setTx (L : List CompS) (sc : List Ent) (c : Nat) : List UInt8 := if (whoL sc c sc.length).length = 0 then [] else blockTx L sc c (whoL sc c sc.length)
def setsTx (L : List CompS) (sc : List Ent) (q : Nat) : List UInt8 := (List.range q).flatMap fun c => setTx L sc c
theorem setsTx_succ (L : List CompS) (sc : List Ent) (q : Nat) : setsTx L sc (q + 1) = setsTx L sc q ++ setTx L sc q := by
  unfold setsTx
  rw [List.range_succ, List.flatMap_append]
  simp
def bytesTx (L : List CompS) (sc : List Ent) : List UInt8 := [83, 67, 49] ++ (sevTx 10 sc.length ++ setsTx L sc (2 ^ L.length))

set_option maxHeartbeats 1600000 in
set_option maxRecDepth 20000 in
theorem bytes_any (L : List CompS) (sc : List Ent) (sls : Nat → Nat → Value) (lvs : Nat → Nat → List Value) (v : Value) (b0 g lc : Nat) (w : World) (hL : LayN w b0 g L) (hlc : L.length ≤ lc) (hS : SceneOwn w 0 v sc sls lvs) (hW : ∀ j, j < sc.length → EntK L (entAt sc j)) (hn : sc.length ≤ 20) :
    Calls Tryz.prog 50 #[v, .slice (some ⟨g, 0, none⟩) L.length lc] w fun e w' => e = .returned (.string (mk (bytesTx L sc))) ∧ Below w.heap.size w w' := by
  obtain ⟨va, vc, rfl⟩ := own_form hS.row
  obtain ⟨m, hm⟩ : ∃ m, m = sc.length := ⟨_, rfl⟩
  obtain ⟨nl, hnl⟩ : ∃ nl, nl = L.length := ⟨_, rfl⟩
  have h6 : nl ≤ 6 := by rw [hnl]; exact hL.few
  obtain ⟨hsh, hN64⟩ := shl_seven ⟨nl, by omega⟩
  simp only at hsh hN64
  have HNe : Hid (2 ^ L.length = 2 ^ nl) := by show _ = _; rw [hnl]
  rw [← hm] at hn ⊢
  rw [← hnl]
  have HM : Hid (m = sc.length) := hm
  have HNl : Hid (nl = L.length) := hnl
  have HL : Hid (LayN w b0 g L) := hL
  have HLc : Hid (L.length ≤ lc) := hlc
  have HS : Hid (SceneOwn w 0 (.slice va sc.length vc) sc sls lvs) := hS
  have HW : Hid (∀ j, j < sc.length → EntK L (entAt sc j)) := hW
  have hcv0 : (convert 166 166 (.slice (some ⟨w.heap.size, 0, none⟩) 3 3)).run Tryz.prog (w.alloc (.cells #[.int .u8 83, .int .u8 67, .int .u8 49] 5)) = .ok (.slice (some ⟨w.heap.size, 0, none⟩) 3 3) (w.alloc (.cells #[.int .u8 83, .int .u8 67, .int .u8 49] 5 (3, 4))) := Lib.run_convert_bytes_const w 166 5 _ 3 3 Tryz.underlying166 Tryz.underlying5
  have HC1 : Hid (Calls Tryz.prog 99 #[.slice (some ⟨w.heap.size, 0, none⟩) 3 3, .int .i64 (m : Int)] (w.alloc (.cells #[.int .u8 83, .int .u8 67, .int .u8 49] 5 (3, 4))) (WEnds (w.alloc (.cells #[.int .u8 83, .int .u8 67, .int .u8 49] 5 (3, 4))) w.heap.size [83, 67, 49] (sevTx 10 m))) := appendCount_any w.heap.size _ [83, 67, 49] m _ (by omega) (Or.inr (lit_made w w.heap.size [83, 67, 49] _ _ (Nat.le_refl _) rfl)) (by simp) (by simp)
  have HK0 : Hid (Kp w.heap.size w (w.alloc (.cells #[.int .u8 83, .int .u8 67, .int .u8 49] 5 (3, 4)))) := (Kp.refl _ _).alloc (Nat.le_refl _) _
  have hl1 := sevTx_len 10 m
  obtain ⟨t1, ht1⟩ : ∃ t1, t1 = sevTx 10 m := ⟨_, rfl⟩
  have HT1 : Hid (t1 = sevTx 10 m) := ht1
  rw [← ht1] at HC1 hl1
  generalize hNN : 2 ^ nl = N at hsh hN64 HNe
  clear hL hS hW hm hlc hnl ht1 hNN
  go_enter Tryz.func50, Tryz.ntmps50
  go_wp2_with fail
  refine Calls.mono HC1.out ?_
  rintro e w1 ⟨v1, rfl, hT1, hb1⟩
  obtain ⟨a1, c1, rfl⟩ := hT1.form
  have hm1 : ([83, 67, 49] ++ t1).length ≤ 14 := by rw [List.length_append]; simp; omega
  have HX1 : Hid (TxAt w1 w.heap.size (.slice a1 ([83, 67, 49] ++ t1).length c1) ([83, 67, 49] ++ t1) ∧ Kp w.heap.size w w1) := ⟨hT1, HK0.out.trans hb1⟩
  clear hT1 hb1
  obtain ⟨m1, hm1e⟩ : ∃ m1, m1 = ([83, 67, 49] ++ t1).length := ⟨_, rfl⟩
  rw [← hm1e] at HX1 hm1 ⊢
  have HM1 : Hid (m1 = ([83, 67, 49] ++ t1).length) := hm1e
  clear hm1e
  go_wp2_with fail
  go_loopw [5, 16] (fun x t wr => ∃ (c : Nat) (sa : Option Addr) (p pc cn : Nat) (acc : List UInt8), c ≤ N ∧ t = .int .u64 c ∧ x = .slice sa p pc ∧ p ≤ 14 + 22 * c + 5000 * cn ∧ cn ≤ 20 ∧ Hid (cn = cntW sc sc.length c) ∧ Hid (p = acc.length ∧ acc = [83, 67, 49] ++ t1 ++ setsTx L sc c) ∧ Hid (TxAt wr w.heap.size (.slice sa p pc) acc ∧ Kp w.heap.size w wr)) (fun _ t _ => N - (intOf t).toNat)
  case atStart => exact ⟨0, a1, m1, c1, 0, _, by omega, rfl, rfl, by omega, by omega, by show _ = _; simp [cntW], ⟨HM1.out, by simp [setsTx]⟩, HX1⟩
  case round =>
    obtain ⟨c, sa, p, pc, cn, acc, hc, rfl, rfl, hp, hcn, HCn, HA, HX⟩ := hrel
    have hwr := HX.out.2.size
    by_cases hlt : c < N
    · have hsu := setsTx_succ L sc c
      have hcs := cntW_succ sc sc.length c
      have hcl := cntW_le sc sc.length (c + 1)
      have hms := HM.out
      obtain ⟨ws, hws⟩ : ∃ ws, ws = whoL sc c sc.length := ⟨_, rfl⟩
      have hF : ∀ k (h : k < L.length), c.testBit k = true → ColFit sc ws k L[k].2.length := by rw [hws]; exact fun k h ht => colFit_of HW.out k h ht
      have hR : Rises ws := by rw [hws]; exact whoL_rises sc c sc.length (by omega)
      have hwl : ws.length ≤ 20 := by rw [hws]; have := whoL_len sc c sc.length; omega
      have hbl := blockTx_len (sc := sc) hF (fun k h => (HL.out.comp k h).1.2.1) (by rw [← HNl.out]; exact h6)
      have HC2 : Hid (Calls Tryz.prog 100 #[.slice va m vc, .int .u64 c] wr (WhoEnds wr ws)) := by
        rw [hws, HM.out]
        exact whoHas_any sc sls lvs _ c wr (HS.out.keep fun i _ h => HX.out.2.block i h) (by omega)
      have HSu : Hid (setsTx L sc (c + 1) = setsTx L sc c ++ (if ws.length = 0 then [] else blockTx L sc c ws)) := by show _ = _; rw [hsu, hws]; rfl
      have hcs2 : cntW sc sc.length (c + 1) = cn + ws.length := by rw [hcs, ← HCn.out, hws]
      have HCs : Hid (cn + ws.length = cntW sc sc.length (c + 1)) := hcs2.symm
      have hc20 : cn + ws.length ≤ 20 := by omega
      have hc64 : c < 64 := by omega
      have HC3 : Hid (∀ wv w5, Kp w.heap.size w w5 → w5.ownsRow 0 3 1 wv ws.length (whoC ws) → TxAt w5 w.heap.size (.slice sa p pc) acc → Calls Tryz.prog 101 #[.slice va m vc, .slice sa p pc, .slice (some ⟨g, 0, none⟩) nl lc, .int .u64 (c : Int), wv] w5 (WEnds w5 w.heap.size acc (blockTx L sc c ws))) := fun wv w5 hk ho hT => by
        rw [HM.out, HNl.out]
        exact appendBlock_any L b0 g lc sc sls lvs _ _ acc c ws wv w w5 HL.out HLc.out HS.out (by omega) hc64 hF hwl hR ho hk hT (by rw [← HA.out.1]; omega)
      clear hsu hcs hcl hms hF hR hcs2 hws
      generalize blockTx L sc c ws = tb at HSu HC3 hbl
      go_wp2_with fail
      refine Calls.mono HC2.out ?_
      rintro e w5 ⟨wv, rfl, hO5, hb5⟩
      obtain ⟨wa, wc, rfl⟩ := own_form hO5
      have HK5 : Hid (Kp w.heap.size w w5) := HX.out.2.below hwr hb5
      have HT5 : Hid (TxAt w5 w.heap.size (.slice sa p pc) acc) := own_turn HX.out.1 fun k _ hk => hb5.block k hk
      have HC4 : Hid _ := HC3.out _ w5 HK5.out (own_base hO5 (Nat.zero_le _)) HT5.out
      clear hO5 hb5 HC3 HC2
      obtain ⟨z, hz⟩ : ∃ z, z = ws.length := ⟨_, rfl⟩
      rw [← hz] at HC4 HSu hbl HCs hwl hc20 ⊢
      clear hz
      by_cases hz0 : z = 0
      · subst hz0
        have HE : Hid (acc = [83, 67, 49] ++ t1 ++ setsTx L sc (c + 1)) := by show _ = _; rw [HSu.out, if_pos rfl, HA.out.2]; simp
        go_wp2_with fail
        exact ⟨⟨c + 1, sa, p, pc, cn, acc, by omega, by go_num, rfl, by omega, hcn, HCs, ⟨HA.out.1, HE.out⟩, ⟨HT5.out, HK5.out⟩⟩, by simp [intOf]; omega⟩
      · have hzp : 0 < z := by omega
        have HE : Hid (acc ++ tb = [83, 67, 49] ++ t1 ++ setsTx L sc (c + 1)) := by show _ = _; rw [HSu.out, if_neg hz0, HA.out.2]; simp
        go_wp2_with fail
        refine Calls.mono HC4.out ?_
        rintro e w8 ⟨v8, rfl, hT8, hb8⟩
        obtain ⟨a8, c8, rfl⟩ := hT8.form
        obtain ⟨m8, hm8⟩ : ∃ m8, m8 = (acc ++ tb).length := ⟨_, rfl⟩
        rw [← hm8] at hT8 ⊢
        have h8 : m8 ≤ 14 + 22 * (c + 1) + 5000 * (cn + z) := by rw [hm8, List.length_append, ← HA.out.1]; omega
        have HA8 : Hid (m8 = (acc ++ tb).length ∧ acc ++ tb = [83, 67, 49] ++ t1 ++ setsTx L sc (c + 1)) := ⟨hm8, HE.out⟩
        have HX8 : Hid (TxAt w8 w.heap.size (.slice a8 m8 c8) (acc ++ tb) ∧ Kp w.heap.size w w8) := ⟨hT8, HK5.out.trans hb8⟩
        clear hT8 hb8 hm8
        go_wp2_with fail
        exact ⟨⟨c + 1, a8, m8, c8, cn + z, acc ++ tb, by omega, by go_num, rfl, h8, hc20, HCs, HA8, HX8⟩, by simp [intOf]; omega⟩
    · obtain rfl : c = N := by omega
      have HTx : Hid (acc = bytesTx L sc) := by show _ = _; rw [HA.out.2]; unfold bytesTx; rw [HNe.out, HT1.out, HM.out]; simp
      have hcv := own_string HX.out.1
      rw [HTx.out] at hcv
      go_wp2_with fail
      go_ret
      exact ⟨rfl, HX.out.2.toBelow⟩
end Go.Proofs.YthkbeaffkcfgiabGreatDoor

namespace Go.Proofs.YthkbeaffkcfgiabGreatDoor
open Go.RowKit

/-- Can an entity come to live at the place? -/
def freeB (bg : Nat → Nat) (tk : Nat → Bool) (i : Nat) : Bool := !tk i && decide (bg i < 3)
/-- How many can. -/
def roomN (bg : Nat → Nat) (tk : Nat → Bool) (k : Nat) : Nat := ((List.range k).filter (freeB bg tk)).length

theorem roomN_succ (bg : Nat → Nat) (tk : Nat → Bool) (k : Nat) : roomN bg tk (k + 1) = roomN bg tk k + (if freeB bg tk k then 1 else 0) := by
  unfold roomN
  rw [List.range_succ, List.filter_append, List.length_append]
  congr 1
  by_cases h : freeB bg tk k = true <;> simp [h]
theorem roomN_le (bg : Nat → Nat) (tk : Nat → Bool) (k : Nat) : roomN bg tk k ≤ k := by
  unfold roomN
  exact Nat.le_trans (List.length_filter_le _ _) (by simp)

set_option maxHeartbeats 1600000 in
set_option maxRecDepth 20000 in
theorem room_any (b : Nat) (bg : Nat → Nat) (tk : Nat → Bool) (cp : Nat → Nat) (w : World) (hP : PlacesAt w b bg tk cp) :
    Calls Tryz.prog 115 #[.pointer (some ⟨b, 0, none⟩)] w fun e w' => e = .returned (.int .i64 (roomN bg tk 20)) ∧ w' = w := by
  have HP : Hid (PlacesAt w b bg tk cp) := hP
  have HF : Hid (∀ i, i < 20 → Calls Tryz.prog 119 #[.pointer (some ⟨b, 1 + i * 3, none⟩)] w fun e w' => e = .returned (.bool (freeB bg tk i)) ∧ w' = w) := fun i hi => by
    obtain ⟨a1, a2, _⟩ := hP.2 i hi
    cases ht : tk i with
    | true =>
      rw [ht] at a2
      have e : freeB bg tk i = false := by unfold freeB; rw [ht]; rfl
      rw [e]
      exact free_taken b _ w a2
    | false =>
      rw [ht] at a2
      have := free_empty b (1 + i * 3) (bg i) w a1 a2
      have e : freeB bg tk i = decide ((bg i : Int) < 3) := by unfold freeB; rw [ht]; simp; omega
      rw [e]
      exact this
  clear hP
  go_enter Tryz.func115, Tryz.ntmps115
  go_wp2_with fail
  go_loopw [3, 7] (fun fr t wr => ∃ k : Nat, k ≤ 20 ∧ t = .int .i64 k ∧ fr = .int .i64 (roomN bg tk k) ∧ wr = w) (fun _ t _ => 20 - (intOf t).toNat)
  case atStart => exact ⟨0, by omega, rfl, rfl, rfl⟩
  case round =>
    obtain ⟨k, hk, rfl, rfl, rfl⟩ := hrel
    have hle := roomN_le bg tk k
    by_cases hlt : k < 20
    · have HFk : Hid _ := HF.out k hlt
      cases hf : freeB bg tk k with
      | true =>
        have hsu : roomN bg tk (k + 1) = roomN bg tk k + 1 := by rw [roomN_succ, hf]; rfl
        rw [hf] at HFk
        generalize roomN bg tk k = q at hsu hle ⊢
        have HSu : Hid (roomN bg tk (k + 1) = q + 1) := hsu
        clear hsu hf
        go_wp2_with fail
        refine Calls.mono HFk.out ?_
        rintro e w3 ⟨rfl, rfl⟩
        go_wp2_with fail
        exact ⟨⟨k + 1, by omega, by go_num, by rw [HSu.out]; go_num, trivial⟩, by simp [intOf]; omega⟩
      | false =>
        have hsu : roomN bg tk (k + 1) = roomN bg tk k := by rw [roomN_succ, hf]; rfl
        rw [hf] at HFk
        generalize roomN bg tk k = q at hsu hle ⊢
        have HSu : Hid (roomN bg tk (k + 1) = q) := hsu
        clear hsu hf
        go_wp2_with fail
        refine Calls.mono HFk.out ?_
        rintro e w3 ⟨rfl, rfl⟩
        go_wp2_with fail
        exact ⟨⟨k + 1, by omega, by go_num, by rw [HSu.out], trivial⟩, by simp [intOf]; omega⟩
    · obtain rfl : k = 20 := by omega
      obtain ⟨q, hq⟩ : ∃ q, q = roomN bg tk 20 := ⟨_, rfl⟩
      have HQ : Hid (q = roomN bg tk 20) := hq
      rw [← hq]
      clear hq
      go_wp2_with fail
      go_ret
      exact ⟨by rw [← HQ.out]; rfl, rfl⟩

end Go.Proofs.YthkbeaffkcfgiabGreatDoor

namespace Go.Proofs.YthkbeaffkcfgiabGreatDoor
open Go.RowKit

/-- The first place at which a life may begin. -/
def firstFree (bg : Nat → Nat) (tk : Nat → Bool) : Nat := ((List.range 20).find? (freeB bg tk)).getD 20

theorem firstFree_spec (bg : Nat → Nat) (tk : Nat → Bool) (h : 1 ≤ roomN bg tk 20) : firstFree bg tk < 20 ∧ freeB bg tk (firstFree bg tk) = true ∧ ∀ j, j < firstFree bg tk → freeB bg tk j = false := by
  unfold firstFree
  cases e : (List.range 20).find? (freeB bg tk) with
  | none =>
    exfalso
    have h2 := List.find?_eq_none.1 e
    have : (List.range 20).filter (freeB bg tk) = [] := List.filter_eq_nil_iff.2 h2
    unfold roomN at h
    rw [this] at h
    simp at h
  | some i =>
    have h2 := List.find?_range_eq_some.1 e
    exact ⟨List.mem_range.1 h2.2.1, h2.1, fun j hj => by simpa using h2.2.2 j hj⟩

theorem shut_of (bg : Nat → Nat) (tk : Nat → Bool) (j : Nat) (h : freeB bg tk j = false) : shutAt bg tk j := by
  unfold freeB at h
  unfold shutAt
  cases ht : tk j with
  | true => exact Or.inl rfl
  | false => rw [ht] at h; simp at h; exact Or.inr h
theorem free_of (bg : Nat → Nat) (tk : Nat → Bool) (j : Nat) (h : freeB bg tk j = true) : tk j = false ∧ bg j < 3 := by
  unfold freeB at h
  simpa using h

theorem roomN_spawn (bg : Nat → Nat) (tk : Nat → Bool) (i : Nat) (hi : i < 20) (h : freeB bg tk i = true) : roomN (upd bg i (bg i + 1)) (upd tk i true) 20 + 1 = roomN bg tk 20 := by
  unfold roomN
  have e0 : ∀ q : Nat → Bool, (List.range 20).filter q = (List.range i).filter q ++ (if q i then [i] else []) ++ (List.range' (i + 1) (19 - i)).filter q := fun q => by
    rw [range_split ⟨i, hi⟩, List.filter_append, List.filter_cons]
    cases q i <;> simp
  have hne : ∀ j, j ≠ i → freeB (upd bg i (bg i + 1)) (upd tk i true) j = freeB bg tk j := fun j hj => by simp [freeB, upd, hj]
  have hi' : freeB (upd bg i (bg i + 1)) (upd tk i true) i = false := by simp [freeB, upd]
  rw [e0, e0 (freeB bg tk), hi', h]
  have e1 : (List.range i).filter (freeB (upd bg i (bg i + 1)) (upd tk i true)) = (List.range i).filter (freeB bg tk) := List.filter_congr fun x hx => hne x (by have := List.mem_range.1 hx; omega)
  have e2 : (List.range' (i + 1) (19 - i)).filter (freeB (upd bg i (bg i + 1)) (upd tk i true)) = (List.range' (i + 1) (19 - i)).filter (freeB bg tk) := List.filter_congr fun x hx => hne x (by have := List.mem_range'_1.1 hx; omega)
  rw [e1, e2]
  simp
  omega

/-- A world's state when j entities, of the sets cs, have come to live. -/
def spawnN (S : St) (cs : List Nat) : Nat → St
  | 0 => S
  | j + 1 => (spawnN S cs j).spawn (firstFree (spawnN S cs j).bg (spawnN S cs j).tk) (cs.getD j 0)
/-- Where the one of a number has come to live. -/
def placeN (S : St) (cs : List Nat) (j : Nat) : Nat := firstFree (spawnN S cs j).bg (spawnN S cs j).tk
def handN (S : St) (cs : List Nat) (j : Nat) : Int × Int := ((placeN S cs j : Int) + 1, ((spawnN S cs j).bg (placeN S cs j) : Int) + 1)
def handsN (S : St) (cs : List Nat) (j : Nat) : List (Int × Int) := (List.range j).map (handN S cs)

theorem room_spawnN (S : St) (cs : List Nat) : ∀ j, j ≤ roomN S.bg S.tk 20 → roomN (spawnN S cs j).bg (spawnN S cs j).tk 20 + j = roomN S.bg S.tk 20
  | 0, _ => rfl
  | j + 1, h => by
    have ih := room_spawnN S cs j (by omega)
    have hs := firstFree_spec (spawnN S cs j).bg (spawnN S cs j).tk (by omega)
    have := roomN_spawn (spawnN S cs j).bg (spawnN S cs j).tk _ hs.1 hs.2.1
    show roomN (upd (spawnN S cs j).bg _ _) (upd (spawnN S cs j).tk _ true) 20 + (j + 1) = _
    omega

theorem place_spec (S : St) (cs : List Nat) (j : Nat) (h : j < roomN S.bg S.tk 20) : placeN S cs j < 20 ∧ (spawnN S cs j).tk (placeN S cs j) = false ∧ (spawnN S cs j).bg (placeN S cs j) < 3 ∧ ∀ i, i < placeN S cs j → shutAt (spawnN S cs j).bg (spawnN S cs j).tk i := by
  have ih := room_spawnN S cs j (by omega)
  have hs := firstFree_spec (spawnN S cs j).bg (spawnN S cs j).tk (by omega)
  exact ⟨hs.1, (free_of _ _ _ hs.2.1).1, (free_of _ _ _ hs.2.1).2, fun i hi => shut_of _ _ _ (hs.2.2 i hi)⟩

/-- Who has come to live goes on. -/
theorem place_stays (S : St) (cs : List Nat) (j : Nat) : ∀ d, j + 1 + d ≤ roomN S.bg S.tk 20 → (spawnN S cs (j + 1 + d)).tk (placeN S cs j) = true ∧ (spawnN S cs (j + 1 + d)).cp (placeN S cs j) = cs.getD j 0
  | 0, _ => by
    show upd _ _ true _ = true ∧ upd _ _ _ _ = _
    exact ⟨upd_same _ _ _, upd_same _ _ _⟩
  | d + 1, h => by
    have ih := place_stays S cs j d (by omega)
    have hp := place_spec S cs (j + 1 + d) (by omega)
    have hne : placeN S cs j ≠ placeN S cs (j + 1 + d) := by
      intro e
      rw [e] at ih
      rw [hp.2.1] at ih
      cases ih.1
    refine ⟨(upd_ne _ _ _ hne).trans ih.1, (upd_ne _ _ _ hne).trans ih.2⟩

/-- The values when those of the first j entities are laid. -/
def fillN (L : List CompS) (S : St) (cs : List Nat) (sc : List Ent) (hs : List (Int × Int)) (V : Nat → Nat → Nat → FV) : Nat → Nat → Nat → Nat → FV
  | 0 => V
  | j + 1 => fillV L (fillN L S cs sc hs V j) (placeN S cs j) (entAt sc j) hs 6 0

/-- The sets of a scene's entities. -/
def setsOf (sc : List Ent) : List Nat := sc.map Ent.c
theorem setsOf_get (sc : List Ent) (j : Nat) (h : j < sc.length) : (setsOf sc).getD j 0 = (entAt sc j).c := by
  rw [entAt_get sc j h]
  simp [setsOf, List.getD, h]

end Go.Proofs.YthkbeaffkcfgiabGreatDoor

namespace Go.Proofs.YthkbeaffkcfgiabGreatDoor
open Go.RowKit

theorem make29 (n : Nat) (h : n ≤ 20) (W : World) : (Instr.makeSlice 29 (.int .i64 (n : Int)) (.int .i64 (n : Int))).run Tryz.prog W = .ok (.slice (some ⟨W.heap.size, 0, none⟩) n n) (W.alloc (.cells (eCells (List.replicate n (0, 0))).toArray 46)) := by
  obtain ⟨i9, hi, hz0, hz1, hz2⟩ := info_parts Tryz.info46
  have := run_make (P := Tryz.prog) W 29 46 i9 _ Tryz.underlying29 hi hz0 .i64 .i64 (n : Int) (n : Int) (by omega) (by omega) (by rw [hz2]; omega) (by omega)
  rw [hz1] at this
  have e : madeCells (Value.agg #[.int .i64 0, .int .i64 0]).cells (n * 2) = (eCells (List.replicate n (0, 0))).toArray := by
    apply Array.ext
    · rw [size_madeCells]; simp [eCells_length]
    · intro j h1 h2
      have a1 : ∀ u ∈ eCells (List.replicate n ((0 : Int), (0 : Int))), u = .int .i64 0 := fun u hu => by
        obtain ⟨z, hz, hu⟩ := List.mem_flatMap.1 hu
        have := List.eq_of_mem_replicate hz
        subst this
        simp [hNews] at hu
        exact hu
      have a2 : (madeCells (Value.agg #[.int .i64 0, .int .i64 0]).cells (n * 2))[j] = .int .i64 0 := by
        unfold madeCells
        have h : j % 2 = 0 ∨ j % 2 = 1 := by omega
        rcases h with h | h <;> simp [Value.cells, h]
      rw [a2]
      exact (a1 _ (by rw [List.getElem_toArray]; exact List.getElem_mem _)).symm
  rw [← e]
  simpa using this

/-- The settled, as they lie: those that have, and zeros for the others. -/
def setCells (m : Nat) (H : List (Int × Int)) : List Value := eCells (H ++ List.replicate (m - H.length) (0, 0))
theorem setCells_next (m : Nat) (H : List (Int × Int)) (p l : Int) (h : H.length < m) : ((setCells m H).set (H.length * 2) (.int .i64 p)).set (H.length * 2 + 1) (.int .i64 l) = setCells m (H ++ [(p, l)]) := by
  unfold setCells
  have e : m - H.length = (m - (H ++ [(p, l)]).length) + 1 := by simp; omega
  rw [e, List.replicate_succ, List.append_assoc]
  simp only [eCells_append]
  have e2 : eCells ((0, 0) :: List.replicate (m - (H ++ [(p, l)]).length) (0, 0)) = .int .i64 0 :: .int .i64 0 :: eCells (List.replicate (m - (H ++ [(p, l)]).length) (0, 0)) := rfl
  have e3 : ∀ R, eCells ([(p, l)] ++ R) = .int .i64 p :: .int .i64 l :: eCells R := fun _ => rfl
  rw [e2]
  have := set_two (eCells H) (eCells (List.replicate (m - (H ++ [(p, l)]).length) (0, 0))) (.int .i64 0) (.int .i64 0) (.int .i64 p) (.int .i64 l)
  rw [eCells_length] at this
  rw [this]
  rfl

theorem setCells_get (m : Nat) (H : List (Int × Int)) (j : Nat) (h : j < H.length) : (setCells m H)[j * 2]? = some (.int .i64 H[j].1) ∧ (setCells m H)[j * 2 + 1]? = some (.int .i64 H[j].2) := by
  unfold setCells
  rw [eCells_append]
  have hl := eCells_length H
  rw [List.getElem?_append_left (by omega), List.getElem?_append_left (by omega)]
  unfold eCells
  exact flat2_get (fun z : Int × Int => Value.int .i64 z.1) (fun z => Value.int .i64 z.2) H j h

/-- While the entities of a scene come to live: j of them do. -/
structure SpawnAt (w : World) (own : Nat → Nat) (b g lc N sg m : Nat) (L : List CompS) (S : St) (cs : List Nat) (j : Nat) (wr : World) : Prop where
  turns : Turns w wr (fun k => Tur own k ∨ k = sg)
  row : wr.heap[sg]? = some (.cells (setCells m (handsN S cs j)).toArray 46 (0, 0))
  wt : ∃ own', (∀ k, k < w.heap.size → own' k = own k) ∧ WT wr own' b g lc (N + j) L (spawnN S cs j)

theorem handsN_len (S : St) (cs : List Nat) (j : Nat) : (handsN S cs j).length = j := by simp [handsN]
theorem handsN_succ (S : St) (cs : List Nat) (j : Nat) : handsN S cs (j + 1) = handsN S cs j ++ [handN S cs j] := by simp [handsN, List.range_succ]

/-- What is there when one more has come to live. -/
def SpawnPost (w : World) (own : Nat → Nat) (b g lc N sg m : Nat) (L : List CompS) (S : St) (cs : List Nat) (j : Nat) (hd : Int × Int) (e : Ending) (w' : World) : Prop :=
  e = .returned (.tuple #[.agg #[.int .i64 hd.1, .int .i64 hd.2], .int .i64 0]) ∧ w'.cell? ⟨sg, j * 2, none⟩ = some (.int .i64 0) ∧ w'.cell? ⟨sg, j * 2 + 1, none⟩ = some (.int .i64 0) ∧ w'.frozen? ⟨sg, j * 2, none⟩ = false ∧ w'.frozen? ⟨sg, j * 2 + 1, none⟩ = false ∧
      Hid (SpawnAt w own b g lc N sg m L S cs (j + 1) ((w'.setCell ⟨sg, j * 2, none⟩ (.int .i64 hd.1)).setCell ⟨sg, j * 2 + 1, none⟩ (.int .i64 hd.2)))

/-- One more comes to live. -/
theorem SpawnAt.next {w wr W : World} {own : Nat → Nat} {b g lc N sg m j : Nat} {L : List CompS} {S : St} {cs : List Nat} (h : SpawnAt w own b g lc N sg m L S cs j wr) (hb : Below wr.heap.size wr W) (hj : j < m) (hN : N + m ≤ 1000) (hN1 : 1 ≤ N) (hroom : m ≤ roomN S.bg S.tk 20) (hsg : sg < w.heap.size) (hsg0 : own sg = 0) (hsgb : b < sg) (hc : cs.getD j 0 < 64) :
    Calls Tryz.prog 58 #[.pointer (some ⟨b, 0, none⟩), .int .u64 (cs.getD j 0 : Int)] W (SpawnPost w own b g lc N sg m L S cs j (handN S cs j)) := by
  obtain ⟨hT, hrow, own', ho, hW⟩ := h
  obtain ⟨p1, p2, p3, p4⟩ := place_spec S cs j (by omega)
  refine (spawn_wt own' b g lc (N + j) (placeN S cs j) (cs.getD j 0) L (spawnN S cs j) W p1 hc (by omega) (by omega) (hW.below hb) p4 p2 p3).mono ?_
  rintro e w' ⟨rfl, t1, own2, t2, t3⟩
  have hsz := hT.size
  have hsz2 := hb.size
  have hsz3 := t1.size
  have hnt : ¬ Tur own' sg := by unfold Tur; rw [ho sg hsg, hsg0]; omega
  have hrw : w'.heap[sg]? = some (.cells (setCells m (handsN S cs j)).toArray 46 (0, 0)) := (t1.block sg (by omega) hnt).trans ((hb.block sg (by omega)).trans hrow)
  have hHl := handsN_len S cs j
  have hz : (setCells m (handsN S cs j)) = eCells (handsN S cs j) ++ eCells (List.replicate (m - j) (0, 0)) := by unfold setCells; rw [eCells_append, hHl]
  have hel := eCells_length (handsN S cs j)
  have hrep : List.replicate (m - j) ((0 : Int), (0 : Int)) = (0, 0) :: List.replicate (m - j - 1) (0, 0) := by rw [← List.replicate_succ]; congr 1; omega
  have z0 : (setCells m (handsN S cs j))[j * 2]? = some (.int .i64 0) := by
    rw [hz, List.getElem?_append_right (by omega), hel, hHl, Nat.sub_self, hrep]; rfl
  have z1 : (setCells m (handsN S cs j))[j * 2 + 1]? = some (.int .i64 0) := by
    rw [hz, List.getElem?_append_right (by omega), hel, hHl, show j * 2 + 1 - j * 2 = 1 by omega, hrep]; rfl
  refine ⟨rfl, by rw [cell_row hrw]; simpa using z0, by rw [cell_row hrw]; simpa using z1, frozen_row hrw _, frozen_row hrw _, ?_⟩
  obtain ⟨W4, hW4⟩ : ∃ W4, W4 = (w'.setCell ⟨sg, j * 2, none⟩ (.int .i64 (handN S cs j).1)).setCell ⟨sg, j * 2 + 1, none⟩ (.int .i64 (handN S cs j).2) := ⟨_, rfl⟩
  rw [← hW4]
  have hs4 : W4.heap.size = w'.heap.size := by rw [hW4]; simp [World.setCell]
  have h4 : ∀ k, k ≠ sg → W4.heap[k]? = w'.heap[k]? := fun k hk => by rw [hW4, Below.heap_setCell _ _ _ _ hk, Below.heap_setCell _ _ _ _ hk]
  have hsg2 : own2 sg = 0 := (t2 sg (by omega)).trans ((ho sg hsg).trans hsg0)
  refine ⟨?_, ?_, own2, fun k hk => (t2 k (by omega)).trans (ho k hk), ?_⟩
  · have hT2 : Turns w w' (fun k => Tur own k ∨ k = sg) := hT.trans ⟨t1.os.trans hb.os, t1.tape.trans hb.tape, t1.output.trans hb.output, by omega, fun k hk hn => by
      rw [t1.block k (by omega) ?_, hb.block k hk]
      intro q
      refine hn ?_
      by_cases hq : k < w.heap.size
      · exact Or.inl (Or.inl (by unfold Tur at q ⊢; rw [ho k hq] at q; exact q))
      · exact Or.inr ⟨by omega, by omega⟩⟩
    rw [hW4]
    exact (hT2.set sg _ _ (fun _ => Or.inr rfl)).set sg _ _ (fun _ => Or.inr rfl)
  · rw [hW4, setCell_block _ (setCell_block _ hrw)]
    congr 2
    rw [handsN_succ, ← setCells_next m (handsN S cs j) _ _ (by omega), hHl]
    simp
  · have := t3.turn (W' := W4) (by omega) fun k hk hk2 => h4 k (by
      rintro rfl
      rcases hk2 with q | q
      · omega
      · omega)
    exact this

end Go.Proofs.YthkbeaffkcfgiabGreatDoor
