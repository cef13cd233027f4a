import Derived.Deep.RegionLawGrows
import Derived.Test.YthkbeaffkcfgiabGreatDoorV16
set_option linter.unusedSimpArgs false
set_option linter.unusedVariables false
namespace Go.Proofs.YthkbeaffkcfgiabGreatDoor

def sumTo (f : Nat → Nat) : Nat → Nat
  | 0 => 0
  | n + 1 => sumTo f n + f n

theorem sumTo_congr (f g : Nat → Nat) : ∀ n, (∀ i, i < n → f i = g i) → sumTo f n = sumTo g n
  | 0, _ => rfl
  | n + 1, h => by rw [sumTo, sumTo, sumTo_congr f g n (fun i hi => h i (by omega)), h n (by omega)]

theorem sumTo_upd (f : Nat → Nat) (i v : Nat) : ∀ n, i < n → sumTo (upd f i v) n + f i = sumTo f n + v
  | 0, h => by omega
  | n + 1, h => by
    rw [sumTo, sumTo]
    by_cases e : i = n
    · subst e
      have : sumTo (upd f i v) i = sumTo f i := sumTo_congr _ _ _ fun j hj => by simp [upd]; omega
      rw [this]; simp [upd]; omega
    · have := sumTo_upd f i v n (by omega)
      have h2 : upd f i v n = f n := by simp [upd]; omega
      rw [h2]; omega

theorem sumTo_le (f g : Nat → Nat) : ∀ n, (∀ i, i < n → f i ≤ g i) → sumTo f n ≤ sumTo g n
  | 0, _ => Nat.le_refl _
  | n + 1, h => by rw [sumTo, sumTo]; have := sumTo_le f g n (fun i hi => h i (by omega)); have := h n (by omega); omega

theorem sumTo_const (c : Nat) : ∀ n, sumTo (fun _ => c) n = n * c
  | 0 => by simp [sumTo]
  | n + 1 => by rw [sumTo, sumTo_const c n, Nat.succ_mul]

theorem sumTo_add (f g : Nat → Nat) : ∀ n, sumTo (fun i => f i + g i) n = sumTo f n + sumTo g n
  | 0 => rfl
  | n + 1 => by rw [sumTo, sumTo, sumTo, sumTo_add f g n]; omega

def one (tk : Nat → Bool) (i : Nat) : Nat := if tk i = true then 1 else 0

structure Inv (bg : Nat → Nat) (tk : Nat → Bool) (ever live : List (Nat × Nat)) : Prop where
  le3 : ∀ i, i < 20 → bg i ≤ 3
  pos : ∀ i, i < 20 → tk i = true → 1 ≤ bg i
  liveOk : ∀ z ∈ live, z.1 < 20 ∧ tk z.1 = true ∧ z.2 = bg z.1
  nodup : (live.map Prod.fst).Nodup
  everOk : ∀ z ∈ ever, z.1 < 20 ∧ z.2 ≤ bg z.1
  everLen : ever.length = sumTo bg 20
  liveLen : live.length = sumTo (one tk) 20

theorem Inv.start : Inv (fun _ => 0) (fun _ => false) [] [] := {
  le3 := by simp
  pos := by simp
  liveOk := by simp
  nodup := by simp
  everOk := by simp
  everLen := by rw [sumTo_const]; rfl
  liveLen := by
    have : sumTo (one fun _ => false) 20 = sumTo (fun _ => 0) 20 := sumTo_congr _ _ _ fun i _ => by simp [one]
    rw [this, sumTo_const]; rfl }

theorem Inv.ever_le {bg : Nat → Nat} {tk : Nat → Bool} {ever live : List (Nat × Nat)} (h : Inv bg tk ever live) : ever.length ≤ 60 := by
  rw [h.everLen]
  have := sumTo_le bg (fun _ => 3) 20 h.le3
  rw [sumTo_const] at this
  omega

theorem Inv.live_le {bg : Nat → Nat} {tk : Nat → Bool} {ever live : List (Nat × Nat)} (h : Inv bg tk ever live) : live.length ≤ ever.length := by
  rw [h.everLen, h.liveLen]
  refine sumTo_le _ _ _ fun i hi => ?_
  by_cases e : tk i = true
  · simp [one, e]; exact h.pos i hi e
  · simp [one, e]

theorem Inv.full {bg : Nat → Nat} {tk : Nat → Bool} {ever live : List (Nat × Nat)} (h : Inv bg tk ever live) (hf : ∀ j, j < 20 → shutAt bg tk j) : 60 ≤ ever.length + 2 * live.length := by
  have h1 : sumTo (fun _ => 3) 20 ≤ sumTo (fun i => bg i + (one tk i + one tk i)) 20 := sumTo_le _ _ _ fun i hi => by
    rcases hf i hi with e | e
    · have := h.pos i hi e; simp [one, e]; omega
    · omega
  rw [sumTo_const, sumTo_add, sumTo_add, ← h.everLen, ← h.liveLen] at h1
  omega

theorem Inv.fresh {bg : Nat → Nat} {tk : Nat → Bool} {ever live : List (Nat × Nat)} (h : Inv bg tk ever live) (i : Nat) : ∀ z ∈ ever, ¬ (z.1 = i ∧ z.2 = bg i + 1) := by
  intro z hz ⟨e1, e2⟩
  have := (h.everOk z hz).2
  rw [e1] at this
  omega

theorem Inv.spawn {bg : Nat → Nat} {tk : Nat → Bool} {ever live : List (Nat × Nat)} (h : Inv bg tk ever live) (i : Nat) (hi : i < 20) (ht : tk i = false) (hg : bg i < 3) :
    Inv (upd bg i (bg i + 1)) (upd tk i true) (ever ++ [(i, bg i + 1)]) (live ++ [(i, bg i + 1)]) := {
  le3 := fun j hj => by
    by_cases e : j = i
    · subst e; simp [upd]; omega
    · simp [upd, e]; exact h.le3 j hj
  pos := fun j hj h1 => by
    by_cases e : j = i
    · subst e; simp [upd]
    · simp [upd, e] at h1 ⊢; exact h.pos j hj h1
  liveOk := fun z hz => by
    rcases List.mem_append.1 hz with hz | hz
    · obtain ⟨a, b, c⟩ := h.liveOk z hz
      have e : z.1 ≠ i := fun e => by rw [e, ht] at b; cases b
      simp [upd, e]; exact ⟨a, b, c⟩
    · simp at hz; subst hz; simp [upd]; exact hi
  nodup := by
    rw [List.map_append, List.nodup_append]
    refine ⟨h.nodup, by simp, fun a ha b hb => ?_⟩
    simp only [List.map_cons, List.map_nil, List.mem_singleton] at hb
    subst hb
    obtain ⟨z, hz, rfl⟩ := List.mem_map.1 ha
    intro e
    have := (h.liveOk z hz).2.1
    rw [e, ht] at this; cases this
  everOk := fun z hz => by
    rcases List.mem_append.1 hz with hz | hz
    · obtain ⟨a, b⟩ := h.everOk z hz
      refine ⟨a, ?_⟩
      by_cases e : z.1 = i
      · simp [upd, e]; rw [e] at b; omega
      · simp [upd, e]; exact b
    · simp at hz; subst hz; simp [upd]; exact hi
  everLen := by
    have := sumTo_upd bg i (bg i + 1) 20 hi
    simp; rw [h.everLen]; omega
  liveLen := by
    have e : sumTo (one (upd tk i true)) 20 = sumTo (upd (one tk) i 1) 20 := sumTo_congr _ _ _ fun j _ => by
      by_cases e : j = i
      · subst e; simp [upd, one]
      · simp [upd, one, e]
    have := sumTo_upd (one tk) i 1 20 hi
    have h0 : one tk i = 0 := by simp [one, ht]
    simp; rw [h.liveLen, e]; omega }

theorem Inv.despawn {bg : Nat → Nat} {tk : Nat → Bool} {ever a b : List (Nat × Nat)} {z : Nat × Nat} (h : Inv bg tk ever (a ++ z :: b)) : Inv bg (upd tk z.1 false) ever (a ++ b) := {
  le3 := h.le3
  pos := fun j hj h1 => by
    by_cases e : j = z.1
    · subst e; simp [upd] at h1
    · simp [upd, e] at h1; exact h.pos j hj h1
  liveOk := fun y hy => by
    have hm : y ∈ a ++ z :: b := by simp at hy ⊢; rcases hy with hy | hy; exact Or.inl hy; exact Or.inr (Or.inr hy)
    obtain ⟨p, q, r⟩ := h.liveOk y hm
    have hne : y.1 ≠ z.1 := by
      intro e
      have hn := h.nodup
      rw [List.map_append, List.map_cons, List.nodup_append, List.nodup_cons] at hn
      rcases List.mem_append.1 hy with hy | hy
      · exact hn.2.2 y.1 (List.mem_map_of_mem hy) z.1 (by simp) e
      · exact hn.2.1.1 (by rw [← e]; exact List.mem_map_of_mem hy)
    simp [upd, hne]; exact ⟨p, q, r⟩
  nodup := by
    have hn := h.nodup
    rw [List.map_append, List.map_cons, List.nodup_append, List.nodup_cons] at hn
    rw [List.map_append, List.nodup_append]
    exact ⟨hn.1, hn.2.1.2, fun x hx y hy => hn.2.2 x hx y (by simp at hy ⊢; exact Or.inr hy)⟩
  everOk := h.everOk
  everLen := h.everLen
  liveLen := by
    have hz := h.liveOk z (by simp)
    have e : sumTo (one (upd tk z.1 false)) 20 = sumTo (upd (one tk) z.1 0) 20 := sumTo_congr _ _ _ fun j _ => by
      by_cases e : j = z.1
      · subst e; simp [upd, one]
      · simp [upd, one, e]
    have h1 := sumTo_upd (one tk) z.1 0 20 hz.1
    have h0 : one tk z.1 = 1 := by simp [one, hz.2.1]
    have hl := h.liveLen
    simp at hl ⊢; rw [e]; omega }

theorem open_or (bg : Nat → Nat) (tk : Nat → Bool) : ∀ n, (∀ j, j < n → shutAt bg tk j) ∨ ∃ i, i < n ∧ tk i = false ∧ bg i < 3 ∧ ∀ j, j < i → shutAt bg tk j
  | 0 => Or.inl fun j h => by omega
  | n + 1 => by
    rcases open_or bg tk n with h | ⟨i, hi, r⟩
    · by_cases e : shutAt bg tk n
      · refine Or.inl fun j hj => ?_
        by_cases ej : j = n
        · subst ej; exact e
        · exact h j (by omega)
      · simp only [shutAt, not_or, Bool.not_eq_true, Nat.not_le] at e
        exact Or.inr ⟨n, by omega, e.1, e.2, h⟩
    · exact Or.inr ⟨i, by omega, r⟩

end Go.Proofs.YthkbeaffkcfgiabGreatDoor

namespace Go.Proofs.YthkbeaffkcfgiabGreatDoor
open Go.RowKit

/-- The slice v, of n handles (two cells each), begins at the head of a row of the call's own, which may be longer than v's capacity. -/
def ownsPart (w : World) (base : Nat) (v : Value) (n : Nat) (xs : List Value) : Prop :=
  xs.length = n * 2 ∧ ((v = .slice none 0 0 ∧ n = 0) ∨
    ∃ g cap cur, v = .slice (some ⟨g, 0, none⟩) n cap ∧ base ≤ g ∧ w.heap[g]? = some (.cells cur 46 (0, 0)) ∧ n ≤ cap ∧ cap ≤ maxLen ∧ cap * 2 ≤ cur.size ∧ cur.toList.take (n * 2) = xs)

theorem ownsPart.lt {w : World} {base : Nat} {v : Value} {n : Nat} {xs : List Value} (h : ownsPart w base v n xs) : ∀ k, v.ownBlock = some k → base ≤ k ∧ k < w.heap.size := by
  intro k hk
  rcases h.2 with ⟨rfl, _⟩ | ⟨g, cap, cur, rfl, hb, hg, _⟩
  · simp [Value.ownBlock] at hk
  · simp [Value.ownBlock] at hk
    subst hk
    exact ⟨hb, (Array.getElem?_eq_some_iff.1 hg).1⟩

theorem ownsPart.kept {w w' : World} {base : Nat} {v : Value} {n : Nat} {xs : List Value} {row : Option Nat} (h : ownsPart w base v n xs) (hg : w.grownBy w' row) (hne : v.ownBlock = none ∨ v.ownBlock ≠ row) : ownsPart w' base v n xs := by
  refine ⟨h.1, ?_⟩
  rcases h.2 with hn | ⟨g, cap, cur, rfl, hb, hgg, rest⟩
  · exact .inl hn
  · refine .inr ⟨g, cap, cur, rfl, hb, ?_, rest⟩
    rw [hg.block g (Array.getElem?_eq_some_iff.1 hgg).1 (by simpa [Value.ownBlock] using hne)]
    exact hgg

theorem ownsPart.below {w w' : World} {base : Nat} {v : Value} {n : Nat} {xs : List Value} (h : ownsPart w base v n xs) (hg : Below w.heap.size w w') : ownsPart w' base v n xs :=
  h.kept (row := none) ⟨hg.os, hg.tape, hg.output, hg.size, fun k hk _ => hg.block k hk⟩ (by cases v.ownBlock <;> simp)

theorem ownsPart.cells {w : World} {base : Nat} {v : Value} {n : Nat} {xs : List Value} (h : ownsPart w base v n xs) {g : Nat} (hg : v.ownBlock = some g) : ∀ j u, xs[j]? = some u → w.cell? ⟨g, j, none⟩ = some u := by
  intro j u hu
  rcases h.2 with ⟨rfl, _⟩ | ⟨g', cap, cur, rfl, _, hgg, _, _, _, htake⟩
  · simp [Value.ownBlock] at hg
  · simp [Value.ownBlock] at hg
    subst hg
    rw [cell_of_row w g' j cur 46 (0, 0) hgg]
    rw [← htake, List.getElem?_take] at hu
    split at hu
    · simpa using hu
    · cases hu

theorem addr_add (g j : Nat) : (⟨g, 0, none⟩ : Addr).add j = ⟨g, j, none⟩ := by unfold Addr.add; split <;> simp_all

theorem run_append_part (w : World) (base : Nat) (ty : TypeId) (v : Value) (n : Nat) (xs : List Value) (hown : ownsPart w base v n xs)
    (a : Addr) (m c : Nat) (news : List Value) (hl : news.length = m * 2) (hnews : ∀ j u, news[j]? = some u → w.cell? (a.add j) = some u) (h1 : ∀ u ∈ news, u.oneCell' = true)
    (hsm : n + m ≤ 1000) (hbase : base ≤ w.heap.size) :
    ∃ v' w', (Builtin.append_ #[29, 29] ty #[v, .slice (some a) m c]).run Tryz.prog w = .ok v' w' ∧ ownsPart w' base v' (n + m) (xs ++ news) ∧ w.grownBy w' v.ownBlock ∧ (v'.ownBlock = v.ownBlock ∨ v'.ownBlock = some w.heap.size) := by
  obtain ⟨i, hi, hz, hsize, hby⟩ := info_parts Tryz.info46
  have h63 : n + m ≤ maxLen := by unfold maxLen; omega
  rcases hown.2 with ⟨rfl, rfl⟩ | ⟨g, cap, cur, rfl, hbg, hg, hnc, hcm, hcs, htake⟩
  · have hx : xs = [] := List.eq_nil_of_length_eq_zero (by simpa using hown.1)
    subst hx
    by_cases hm : m = 0
    · subst hm
      have hn : news = [] := List.eq_nil_of_length_eq_zero (by simpa using hl)
      subst hn
      refine ⟨.slice none 0 0, w, ?_, ⟨by simp, Or.inl ⟨rfl, by simp⟩⟩, ⟨rfl, rfl, rfl, Nat.le_refl _, fun _ _ _ => rfl⟩, Or.inl rfl⟩
      simp [Builtin.append_, run_underlying Tryz.underlying29, sizeOf, typeInfo, hi, Builtin.lenOf, Builtin.firstCells, loadCells, loadCellsFrom]
    · have hr := run_append_nil (P := Tryz.prog) w 29 ty 46 i _ Tryz.underlying29 hi hz a m c news (by rw [hsize]; exact hl) hnews (by omega) (by omega) (by rw [hby]; omega)
      have hge := grownCap_ge w m 0 46
      refine ⟨_, _, hr, ⟨by simp [hl], .inr ⟨w.heap.size, _, _, by simp, hbase, _root_.Go.heap_alloc_new w.drew _, by omega, grownCap_le_maxLen w m 0 46 (by omega), ?_, ?_⟩⟩, ⟨rfl, rfl, rfl, by simp, fun k hk _ => Below.heap_alloc w.drew _ k hk⟩, Or.inr rfl⟩
      · simp only [Array.size_append, List.size_toArray, size_zeroCells, hl]
        show _ ≤ m * 2 + (grownCap w m 0 46 - m) * 2
        omega
      · simp only [Array.toList_append, List.nil_append, Nat.zero_add]
        rw [← hl]
        exact List.take_left
  · have hlen : (xs ++ news).length = (n + m) * 2 := by rw [List.length_append, hown.1, hl, Nat.add_mul]
    by_cases hroom : n + m ≤ cap
    · have hfit : n * i.size + news.length ≤ cur.size := by rw [hl, hsize]; omega
      have hr := run_append_room (P := Tryz.prog) w 29 ty 46 i Tryz.underlying29 hi g n cap cur hg a m c news (by rw [hsize]; exact hl) hnews h1 hroom hfit
      refine ⟨_, _, hr, ⟨hlen, .inr ⟨g, cap, _, rfl, hbg, setRow_heap w g cur _ 46 _ hg, hroom, hcm, ?_, ?_⟩⟩, ⟨rfl, rfl, rfl, by simp, fun k _ hk => setRow_other w g k _ (fun e => hk (by simp [Value.ownBlock, e]))⟩, Or.inl rfl⟩
      · simp only [List.size_toArray, List.length_append, List.length_take, List.length_drop, Array.length_toList]
        omega
      · rw [hsize, htake, ← hlen]
        exact List.take_left
    · have holds : ∀ j u, xs[j]? = some u → w.cell? ((⟨g, 0, none⟩ : Addr).add j) = some u := fun j u h => by rw [addr_add]; exact hown.cells (g := g) rfl j u h
      have hr := run_append_grow (P := Tryz.prog) w 29 ty 46 i _ Tryz.underlying29 hi hz ⟨g, 0, none⟩ n cap xs (by rw [hsize]; exact hown.1) holds a m c news (by rw [hsize]; exact hl) hnews (by omega) (by omega) (growslice_fits (by omega) (by rw [hby]; omega))
      refine ⟨_, _, hr, ?_, ⟨rfl, rfl, rfl, by simp, fun k hk _ => Below.heap_alloc w.drew _ k hk⟩, Or.inr rfl⟩
      have hge := grownCap_ge w (n + m) cap 46
      refine ⟨hlen, .inr ⟨w.heap.size, _, _, rfl, hbase, _root_.Go.heap_alloc_new w.drew _, hge, grownCap_le_maxLen w (n + m) cap 46 h63, ?_, ?_⟩⟩
      · simp only [Array.size_append, List.size_toArray, size_zeroCells, hown.1, hl]
        show _ ≤ n * 2 + m * 2 + (grownCap w (n + m) cap 46 - (n + m)) * 2
        omega
      · simp only [Array.toList_append, List.append_assoc]
        rw [← List.append_assoc, ← hlen]
        exact List.take_left

theorem wpList_append_part {w : World} {ops : Array Oper} {rest : List Oper} {o : Oper} {a : Act} {Q : Exit → Act → World → Prop} (hgd : o.guard = none) (s x : Operand)
    (ho : o.op = .call { callee := .builtin .append, args := #[s, x], argTypes := #[29, 29] }) (base : Nat)
    (v : Value) (n : Nat) (xs : List Value) (hs : a.eval s = v) (hown : ownsPart w base v n xs)
    (ad : Addr) (m c : Nat) (news : List Value) (hx : a.eval x = .slice (some ad) m c) (hl : news.length = m * 2) (hnews : ∀ j u, news[j]? = some u → w.cell? (ad.add j) = some u) (h1 : ∀ u ∈ news, u.oneCell' = true)
    (hsm : n + m ≤ 1000) (hbase : base ≤ w.heap.size)
    (h : ∀ v' w', ownsPart w' base v' (n + m) (xs ++ news) → w.grownBy w' v.ownBlock → (v'.ownBlock = v.ownBlock ∨ v'.ownBlock = some w.heap.size) → wpList Tryz.prog ops Q rest (a.put o.dst v') w') : wpList Tryz.prog ops Q (o :: rest) a w :=
  wpList_plain hgd fun _ hK => by
    obtain ⟨v', w', hr, h2, h3, h4⟩ := run_append_part w base o.type v n xs hown ad m c news hl hnews h1 hsm hbase
    unfold Oper.wp execOp
    simp only [ho, resolve, invoke, builtin, Sem.run_bind, Sem.run_pure, Result.andThen_ok, List.map_toArray, List.map_cons, List.map_nil, hs, hx, hr]
    exact hK _ _ (h v' w' h2 h3 h4)

theorem step_append_part {ops : Array Oper} {o : Oper} {a : Act} {w : World} {K : Act → World → Prop} {Q : Exit → Act → World → Prop} {E : Prop}
    (hg : o.guard = none) (s x : Operand) (hop : o.op = Op.call { callee := Callee.builtin Builtin.append, args := #[s, x], argTypes := #[29, 29] }) (base : Nat)
    (v : Value) (n : Nat) (xs : List Value) (hs : a.eval s = v) (hown : ownsPart w base v n xs)
    (ad : Addr) (m c : Nat) (news : List Value) (hx : a.eval x = .slice (some ad) m c) (hl : news.length = m * 2) (hnews : ∀ j u, news[j]? = some u → w.cell? (ad.add j) = some u) (h1 : ∀ u ∈ news, u.oneCell' = true)
    (hsm : n + m ≤ 1000) (hbase : base ≤ w.heap.size)
    (hK : ∀ v' w', ownsPart w' base v' (n + m) (xs ++ news) → w.grownBy w' v.ownBlock → (v'.ownBlock = v.ownBlock ∨ v'.ownBlock = some w.heap.size) → K (a.put o.dst v') w') :
    if Region.wanted o (yielded ops a.tmps) = true then Oper.wp Tryz.prog o a w K Q else E := by
  have hw : Region.wanted o (yielded ops a.tmps) = true := by simp [Region.wanted, hg]
  rw [if_pos hw]
  obtain ⟨v', w', hr, h2, h3, h4⟩ := run_append_part w base o.type v n xs hown ad m c news hl hnews h1 hsm hbase
  unfold Oper.wp
  simp [execOp, hop, resolve, invoke, builtin, hs, hx, hr, Result.andThen]
  exact hK v' w' h2 h3 h4

end Go.Proofs.YthkbeaffkcfgiabGreatDoor
