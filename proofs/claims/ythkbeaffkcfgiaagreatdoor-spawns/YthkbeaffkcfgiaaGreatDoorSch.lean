import Derived.Test.YthkbeaffkcfgiaaGreatDoorLook
import Derived.Deep.RegionLaw
import Derived.Deep.RegionWith
import Derived.Deep.DeepCutAuto
import Derived.Deep.QuietTactic
import Derived.BigQuiet
namespace Go.Proofs.YthkbeaffkcfgiaaGreatDoor
open Go.RowKit

/-- append to a row of the call's own, as one step of a region that draws. -/
theorem step_append_own {ops : Array Oper} {o : Oper} {a : Act} {w : World} {K : Act → World → Prop} {Q : Exit → Act → World → Prop} {E : Prop}
    (hg : o.guard = none) (s x : Operand) (t : TypeId) (hop : o.op = Op.call { callee := Callee.builtin Builtin.append, args := #[s, x], argTypes := #[t, t] }) (base : Nat) (e : TypeId) (i : TypeInfo) (z : Value) (size bytes : Nat)
    (ht : Tryz.prog.underlying t = some (.slice e)) (hi : Tryz.prog.info? e = some i) (hz : i.zero = some z) (hsize : i.size = size) (hby : i.bytes = bytes) (hzs : z.cells.size = size) (hsz : 0 < size)
    (v : Value) (n : Nat) (xs : List Value) (hs : a.eval s = v) (hown : w.ownsRow base e size v n xs)
    (ad : Addr) (m c : Nat) (news : List Value) (hx : a.eval x = .slice (some ad) m c) (hl : news.length = m * size) (hnews : ∀ j u, news[j]? = some u → w.cell? (ad.add j) = some u) (h1 : ∀ u ∈ news, u.oneCell' = true)
    (h63 : n + m ≤ maxLen) (hbytes : (n + m) * bytes ≤ 140737488355328) (hbase : base ≤ w.heap.size)
    (hK : ∀ v' w', w'.ownsRow base e size v' (n + m) (xs ++ news) → w.grownBy w' v.ownBlock → K (a.put o.dst v') w') :
    if Region.wanted o (yielded ops a.tmps) = true then Oper.wp Tryz.prog o a w K Q else E := by
  have hw : Region.wanted o (yielded ops a.tmps) = true := by simp [Region.wanted, hg]
  rw [if_pos hw]
  obtain ⟨v', w', hr, h2, h3, _⟩ := run_append_own (P := Tryz.prog) w base t o.type e i z size bytes ht hi hz hsize hby hzs hsz v n xs hown ad m c news hl hnews h1 h63 hbytes hbase
  unfold Oper.wp
  simp [execOp, hop, resolve, invoke, builtin, hs, hx, hr, Result.andThen]
  exact hK v' w' h2 h3

def kindsL : List (List UInt8) := [[105, 110, 116], [98, 111, 111, 108], [116, 101, 120, 116], [114, 101, 102], [108, 105, 115, 116]]
/-- The kind's number behind q of the five words. -/
def kindTo (p : List UInt8) : Nat → Nat
  | 0 => 0
  | q + 1 => if kindsL.getD q [] = p then q + 1 else kindTo p q

theorem kindTo_five (p : List UInt8) : kindTo p 5 = kindL p := by
  simp only [kindTo, kindsL, kindL, List.getD_cons_succ, List.getD_cons_zero]
  by_cases h1 : p = [105, 110, 116]
  · subst h1; decide
  · by_cases h2 : p = [98, 111, 111, 108]
    · subst h2; decide
    · by_cases h3 : p = [116, 101, 120, 116]
      · subst h3; decide
      · by_cases h4 : p = [114, 101, 102]
        · subst h4; decide
        · by_cases h5 : p = [108, 105, 115, 116]
          · subst h5; decide
          · rw [if_neg h1, if_neg h2, if_neg h3, if_neg h4, if_neg h5, if_neg (Ne.symm h1), if_neg (Ne.symm h2), if_neg (Ne.symm h3), if_neg (Ne.symm h4), if_neg (Ne.symm h5)]

theorem kindTo_le (p : List UInt8) : ∀ q, kindTo p q ≤ q
  | 0 => Nat.le_refl _
  | q + 1 => by
    unfold kindTo
    split
    · exact Nat.le_refl _
    · exact Nat.le_succ_of_le (kindTo_le p q)

theorem Tryz.info109 : (Tryz.prog.info? 109).map (fun i => (i.zero, i.size, i.bytes)) = some (some (.agg #[.string ⟨#[]⟩, .int .i64 0]), 2, 24) := by kernel_rfl
theorem Tryz.info107 : (Tryz.prog.info? 107).map (fun i => (i.zero, i.size, i.bytes)) = some (some (.agg #[.string ⟨#[]⟩, .slice none 0 0]), 2, 40) := by kernel_rfl

theorem compP_name {nm : List UInt8} {ws : List (List UInt8)} {c : List UInt8 × List (List UInt8 × Nat)} (h : compP nm ws = some c) : c.1 = nm := by
  unfold compP at h
  split at h
  · split at h
    · cases h
    · split at h
      · cases h
      · cases h; rfl
  · cases h

theorem compsL_dup {cl : List (List UInt8 × List (List UInt8 × Nat))} {nm : List UInt8} {ws : List (List UInt8)} {l : List UInt8} {r : List (List UInt8)} (hl : compL l = compP nm ws) (hd : nm ∈ cl.map Prod.fst) : compsL cl (l :: r) = none := by
  rw [compsL, hl]
  cases h : compP nm ws with
  | none => rfl
  | some c =>
    simp only
    rw [if_pos (by rw [compP_name h]; exact hd)]

theorem fieldR_two {wd a b : List UInt8} (h : cutL 58 wd = [a, b]) : fieldR wd = if nameL a = true ∧ kindL b ≠ 0 then some (a, kindL b) else none := by
  unfold fieldR; rw [h]

theorem fieldR_other {wd : List UInt8} (h : (cutL 58 wd).length ≠ 2) : fieldR wd = none := by
  unfold fieldR
  split
  · rename_i a b e; rw [e] at h; simp at h
  · rfl

/-- How Schema ends. -/
def SchEnds (text : List UInt8) (e : Ending) : Prop := (∃ cs, schemaL text = some cs ∧ ∃ sa c, e = .returned (.tuple #[.slice sa cs.length c, .bool true])) ∨ (schemaL text = none ∧ e = .returned (.tuple #[.slice none 0 0, .bool false]))

set_option maxHeartbeats 3200000 in
set_option maxRecDepth 20000 in
theorem schema_any (text : List UInt8) (w : World) (hsz : text.length ≤ 1000000000) :
    Calls Tryz.prog 43 #[.string (mk text)] w fun e w' => SchEnds text e ∧ Below w.heap.size w w' := by
  have hts : (mk text).size = text.length := size_mk text
  by_cases h4 : text.length ≤ 400
  · have h4' : ¬ (400 : Int) < ((mk text).size : Int) := by omega
    have hb4 : (mk text).size ≤ 400 := by omega
    clear hts
    have HCut : Hid _ := cut_any text 10 w h4
    obtain ⟨ls, hls⟩ : ∃ ls, ls = cutL 10 text := ⟨_, rfl⟩
    rw [← hls] at HCut
    have HLs : Hid (ls = cutL 10 text) := hls
    have hl1 : 1 ≤ ls.length := by rw [hls]; exact cutL_length 10 text
    have hl2 : ls.length ≤ 401 := by rw [hls]; have := cut_count 10 text; omega
    have HSm : Hid (∀ p ∈ ls, p.length ≤ 400) := fun p hp => by rw [hls] at hp; have := cut_small 10 text p hp; omega
    clear hls
    go_enter Tryz.func43, Tryz.ntmps43
    go_wp2_with fail
    refine Calls.mono HCut.out ?_
    rintro e w1 ⟨v, rfl, hown, hB1⟩
    obtain ⟨a, cp, rfl⟩ := own_form hown
    obtain ⟨g, rfl⟩ : ∃ g, a = some ⟨g, 0, none⟩ := by
      rcases hown.2 with ⟨h, h2⟩ | ⟨g, cap, cur, h, _⟩
      · omega
      · simp at h; exact ⟨g, h.1⟩
    have HB1 : Hid (Below w.heap.size w w1) := hB1
    have HO : Hid (w1.ownsRow w.heap.size 9 1 (.slice (some ⟨g, 0, none⟩) ls.length cp) ls.length (sCells ls)) := hown
    have hcap : ls.length ≤ cp := by
      rcases hown.2 with ⟨h, h2⟩ | ⟨g', cap, cur, h, _, _, h4, _⟩
      · simp at h
      · simp at h; omega
    have hgl : g < w1.heap.size := (hown.lt g rfl).2
    have hlast : w1.cell? ⟨g, ls.length - 1, none⟩ = some (.string (mk (ls.getLast?.getD []))) := by
      rw [hown.cellAt (ls.length - 1) (by omega)]
      rw [List.getLast?_eq_getElem?]
      simp only [sCells, List.getElem?_map]
      rw [List.getElem?_eq_getElem (by omega)]
      rfl
    have HCells : Hid (∀ k (h : k < ls.length), w1.cell? ⟨g, k, none⟩ = some (.string (mk ls[k]))) := fun k h => by
      rw [hown.cellAt k (by omega)]
      simp [sCells, h]
    clear hown hB1
    have hwr : IntKind.i64.wrap ((ls.length : Int) - 1) = ((ls.length - 1 : Nat) : Int) := by rw [IntKind.wrap_i64]; omega
    obtain ⟨n, hn⟩ : ∃ n, ls.length = n + 1 := ⟨ls.length - 1, by omega⟩
    have HN : Hid (ls.length = n + 1) := hn
    rw [hn] at hlast hl2 hcap
    rw [hn]
    simp only [Nat.add_sub_cancel] at hlast
    clear hwr hl1 hn
    by_cases hgood : ls.getLast? = some [] ∧ 1 ≤ n ∧ n ≤ 6
    · obtain ⟨hg1, hg2, hg3⟩ := hgood
      have HSc0 : Hid (schemaL text = compsL [] (ls.take n)) := by
        show _ = _
        unfold schemaL
        rw [← HLs.out, HN.out, if_pos ⟨h4, hg1, by omega, by omega⟩, List.dropLast_eq_take, HN.out]
        rfl
      rw [hg1] at hlast
      have hlast2 : w1.cell? ⟨g, n, none⟩ = some (.string ⟨#[]⟩) := hlast
      clear hlast hg1
      obtain ⟨lt, hlt⟩ : ∃ lt, lt = ls.take n := ⟨_, rfl⟩
      have HSc : Hid (schemaL text = compsL [] lt) := by rw [hlt]; exact HSc0
      have hltl : lt.length = n := by rw [hlt, List.length_take, HN.out]; omega
      have HLn : Hid (lt.length = n) := hltl
      have HC1 : Hid (∀ k (h : k < lt.length), w1.cell? ⟨g, k, none⟩ = some (.string (mk lt[k]))) := fun k h => by
        have h2 : k < ls.length := by rw [HN.out]; omega
        rw [HCells.out k h2]
        simp [hlt]
      have HSl : Hid (∀ p ∈ lt, p.length ≤ 400) := fun p hp => HSm.out p (by rw [hlt] at hp; exact List.mem_of_mem_take hp)
      clear hlt hltl HCells HSm HLs HSc0
      obtain ⟨i0, hi, hz0, hz1, hz2⟩ := info_parts Tryz.info107
      obtain ⟨i9, hi9, hy0, hy1, hy2⟩ := info_parts Tryz.info109
      go_wp2_with fail
      go_loopw [6, 42] (fun v t wr => ∃ (k : Nat) (cs : List (ByteArray × (Option Addr × Nat × Nat))) (cl : List (List UInt8 × List (List UInt8 × Nat))) (sa : Option Addr) (sc : Nat), k ≤ n ∧ t = .int .i64 k ∧ v = .slice sa k sc ∧ Hid (compsL [] (lt.take k) = some cl) ∧ Hid (cs.map Prod.fst = cl.map fun c => mk c.1) ∧ Hid (cs.length = k) ∧ wr.ownsRow w1.heap.size 107 2 (.slice sa k sc) k (compCells cs) ∧ Below w1.heap.size w1 wr)
        (fun _ t _ => n - (intOf t).toNat)
      case atStart => exact ⟨0, [], [], none, 0, by omega, rfl, rfl, rfl, rfl, rfl, World.ownsRow_nil _ _ _ _, Below.refl _ _⟩
      case round =>
        obtain ⟨k, cs, cl, sa, sc, hk, rfl, rfl, HCs, HNs, HCL, hown, hbw⟩ := hrel
        obtain ⟨wo, rfl⟩ : ∃ wo : World, wo = wr := ⟨_, rfl⟩
        have HBW : Hid (Below w1.heap.size w1 wo) := hbw
        have HOut : Hid (wo.ownsRow w1.heap.size 107 2 (.slice sa k sc) k (compCells cs)) := hown
        have hs1 : w1.heap.size ≤ wo.heap.size := hbw.size
        by_cases hlt : k < n
        · have hkl : k < lt.length := by rw [HLn.out]; exact hlt
          have hcl : wo.cell? ⟨g, k, none⟩ = some (.string (mk lt[k])) := (hbw.cell (p := ⟨g, k, none⟩) hgl).trans (HC1.out k hkl)
          have HCw : Hid _ := cut_any lt[k] 32 wo (HSl.out _ (List.getElem_mem hkl))
          have HLs4 : Hid (lt[k].length ≤ 400) := HSl.out _ (List.getElem_mem hkl)
          have HWs : Hid (compsL [] lt = compsL cl (lt[k] :: lt.drop (k + 1))) := by
            show _ = _
            have e : lt = lt.take k ++ lt[k] :: lt.drop (k + 1) := by rw [← List.drop_eq_getElem_cons hkl, List.take_append_drop]
            conv => lhs; rw [e]
            rw [compsL_append, HCs.out]; rfl
          have HTk : Hid (lt.take (k + 1) = lt.take k ++ [lt[k]]) := List.take_succ_eq_append_getElem hkl
          clear hbw hown
          generalize lt[k] = ln at hcl HCw HWs HTk HLs4
          obtain ⟨nm, ws, hps⟩ : ∃ nm ws, cutL 32 ln = nm :: ws := by
            cases h : cutL 32 ln with
            | nil => exact absurd h (cutL_ne _ _)
            | cons a b => exact ⟨a, b, rfl⟩
          have HCo : Hid (compL ln = compP nm ws) := by show _ = _; unfold compL; rw [hps]
          have HSw : Hid (∀ p ∈ nm :: ws, p.length ≤ 400) := fun p hp => by
            have := cut_small 32 ln p (by rw [hps]; exact hp); have := HLs4.out; omega
          have hbig : ws.length ≤ 401 := by
            have h1 := cut_count 32 ln; rw [hps] at h1; simp at h1; have := HLs4.out; omega
          rw [hps] at HCw
          clear hps
          go_wp2_with fail
          refine Calls.mono HCw.out ?_
          rintro e w2 ⟨vw, rfl, hownw, hB2⟩
          obtain ⟨aw, cw, rfl⟩ := own_form hownw
          simp only [List.length_cons] at hownw
          obtain ⟨gw, rfl⟩ : ∃ gw, aw = some ⟨gw, 0, none⟩ := by
            rcases hownw.2 with ⟨h, h2⟩ | ⟨g, cap, cur, h, _⟩
            · omega
            · simp at h; exact ⟨g, h.1⟩
          have hcw : ws.length + 1 ≤ cw := by
            rcases hownw.2 with ⟨h, h2⟩ | ⟨g', cap, cur, h, _, _, h4, _⟩
            · simp at h
            · simp at h; omega
          have hgw : gw < w2.heap.size := (hownw.lt gw rfl).2
          have hw0 : w2.cell? ⟨gw, 0, none⟩ = some (.string (mk nm)) := by rw [hownw.cellAt 0 (by omega)]; simp [sCells]
          have HPw : Hid (∀ q (h : q < ws.length), w2.cell? ⟨gw, 1 + q, none⟩ = some (.string (mk ws[q]))) := fun q h => by
            rw [hownw.cellAt (1 + q) (by omega), show 1 + q = q + 1 from by omega]; simp [sCells, h]
          have HB2 : Hid (Below wo.heap.size wo w2) := hB2
          have HOut2 : Hid (w2.ownsRow w1.heap.size 107 2 (.slice sa k sc) k (compCells cs)) := HOut.out.kept (grownBy_below hB2 none) (by cases (Value.slice sa k sc).ownBlock <;> simp)
          have HBo : Hid (Below w1.heap.size w1 w2) := Below.trans HBW.out (hB2.mono hs1)
          have hs2 : w1.heap.size ≤ w2.heap.size := Nat.le_trans hs1 hB2.size
          clear hB2 hownw hcl
          go_wp2_with fail
          refine (letters_any nm _ (by have := HSw.out nm (by simp); omega)).mono ?_
          rintro e w3 ⟨rfl, rfl⟩
          cases hname : nameL nm with
          | false =>
            have HNone : Hid (schemaL text = none) := by
              show _ = _
              rw [HSc.out, HWs.out, compsL, HCo.out]
              have : compP nm ws = none := by unfold compP; rw [if_neg (fun h => by rw [hname] at h; cases h.2)]
              rw [this]
            clear hname
            go_wp2_with fail
            go_ret2
            exact ⟨Or.inr ⟨HNone.out, rfl⟩, HB1.out.trans ((HBo.out.alloc hs2 _).mono HB1.out.size)⟩
          | true =>
            have HNm : Hid (nameL nm = true) := hname
            clear hname
            by_cases hfew : ws.length ≤ 4
            · have HFi : Hid _ := look71_any (mk nm) (.slice sa k sc) w1.heap.size cs (w2.alloc (.cells #[.string (mk nm), .slice none 0 0] 107)) (by rw [HCL.out]; omega) (by rw [HCL.out]; exact HOut2.out.alloc _)
              go_wp2_with fail
              refine Calls.mono HFi.out ?_
              rintro e w4 ⟨⟨r, rfl, hr⟩, hb4⟩
              rw [mem_names HNs.out] at hr
              have HB4 : Hid (Below (w2.heap.size + 1) (w2.alloc (.cells #[.string (mk nm), .slice none 0 0] 107)) w4) := by rw [World.size_alloc] at hb4; exact hb4
              have hC0 : w4.cell? ⟨w2.heap.size, 0, none⟩ = some (.string (mk nm)) := by rw [hb4.cell (p := ⟨w2.heap.size, 0, none⟩) (by simp)]; simp
              have hC1 : w4.cell? ⟨w2.heap.size, 1, none⟩ = some (.slice none 0 0) := by rw [hb4.cell (p := ⟨w2.heap.size, 1, none⟩) (by simp)]; simp
              have hF0 : w4.frozen? ⟨w2.heap.size, 0, none⟩ = false := by rw [hb4.frozen (p := ⟨w2.heap.size, 0, none⟩) (by simp)]; simp
              have hF1 : w4.frozen? ⟨w2.heap.size, 1, none⟩ = false := by rw [hb4.frozen (p := ⟨w2.heap.size, 1, none⟩) (by simp)]; simp
              have hs4 : w2.heap.size < w4.heap.size := by have := hb4.size; simp at this; omega
              have HBC : Hid (Below w2.heap.size w2 w4) := ((Below.refl _ _).alloc (Nat.le_refl _) _).trans (hb4.mono (by simp))
              clear hb4
              by_cases hdup : nm ∈ cl.map Prod.fst
              · have hr0 : 0 ≤ r := hr.2 hdup
                have HNone : Hid (schemaL text = none) := by show _ = _; rw [HSc.out, HWs.out]; exact compsL_dup HCo.out hdup
                clear hr hdup
                go_wp2_with fail
                go_ret2
                exact ⟨Or.inr ⟨HNone.out, rfl⟩, HB1.out.trans ((Below.trans HBo.out (HBC.out.mono hs2)).mono HB1.out.size)⟩
              · have hr0 : ¬ 0 ≤ r := fun h => hdup (hr.1 h)
                have HDup : Hid (nm ∉ cl.map Prod.fst) := hdup
                have X4 : Hid (w4.cell? ⟨w2.heap.size, 0, none⟩ = some (.string (mk nm)) ∧ w4.cell? ⟨w2.heap.size, 1, none⟩ = some (.slice none 0 0) ∧ w4.frozen? ⟨w2.heap.size, 0, none⟩ = false ∧ w4.frozen? ⟨w2.heap.size, 1, none⟩ = false) := ⟨hC0, hC1, hF0, hF1⟩
                clear hr hdup hC0 hC1 hF0 hF1
                obtain ⟨AD, hAD, hADe⟩ : ∃ AD : Addr, (if cw = 1 then some (⟨gw, 0, none⟩ : Addr) else some ⟨gw, 1, none⟩) = some AD ∧ (ws.length ≠ 0 → AD = ⟨gw, 1, none⟩) := by
                  by_cases h : cw = 1
                  · exact ⟨⟨gw, 0, none⟩, by simp [h], fun h2 => by omega⟩
                  · exact ⟨⟨gw, 1, none⟩, by simp [h], fun _ => rfl⟩
                have HAD : Hid (ws.length ≠ 0 → AD = ⟨gw, 1, none⟩) := hADe
                clear hADe
                go_wp2_with fail
                go_loopw [73] (fun t wq => ∃ (q : Nat) (zl : List (List UInt8 × Nat)) (fa : Option Addr) (fc : Nat), q ≤ ws.length ∧ t = .int .i64 q ∧ Hid (fieldsL [] (ws.take q) = some zl) ∧ Hid (zl.length = q) ∧ wq.ownsRow (w2.heap.size + 1) 109 2 (.slice fa q fc) q (fieldCells (zl.map bz)) ∧ wq.cell? ⟨w2.heap.size, 0, none⟩ = some (.string (mk nm)) ∧ wq.cell? ⟨w2.heap.size, 1, none⟩ = some (.slice fa q fc) ∧ wq.frozen? ⟨w2.heap.size, 0, none⟩ = false ∧ wq.frozen? ⟨w2.heap.size, 1, none⟩ = false ∧ Below w2.heap.size w2 wq ∧ w2.heap.size < wq.heap.size)
                  (fun t _ => ws.length - (intOf t).toNat)
                case atStart => exact ⟨0, [], none, 0, by omega, rfl, rfl, rfl, World.ownsRow_nil _ _ _ _, X4.out.1, X4.out.2.1, X4.out.2.2.1, X4.out.2.2.2, HBC.out, hs4⟩
                case round =>
                  obtain ⟨q, zl, fa, fc, hq, rfl, HFs, HZl, hownF, hC0, hC1, hF0, hF1, hbq, hsq⟩ := hrel
                  obtain ⟨wq, rfl⟩ : ∃ wq : World, wq = wr := ⟨_, rfl⟩
                  have HBQ : Hid (Below w2.heap.size w2 wq) := hbq
                  have HOF : Hid (wq.ownsRow (w2.heap.size + 1) 109 2 (.slice fa q fc) q (fieldCells (zl.map bz))) := hownF
                  clear hownF
                  by_cases hlq : q < ws.length
                  · obtain rfl := HAD.out (by omega)
                    have hwd : wq.cell? ⟨gw, 1 + q, none⟩ = some (.string (mk ws[q])) := (hbq.cell (p := ⟨gw, 1 + q, none⟩) hgw).trans (HPw.out q hlq)
                    have HCp : Hid _ := cut_any ws[q] 58 wq (HSw.out _ (by simp))
                    have HWd4 : Hid (ws[q].length ≤ 400) := HSw.out _ (by simp)
                    have HWw : Hid (fieldsL [] ws = fieldsL zl (ws[q] :: ws.drop (q + 1))) := by
                      show _ = _
                      have e : ws = ws.take q ++ ws[q] :: ws.drop (q + 1) := by rw [← List.drop_eq_getElem_cons hlq, List.take_append_drop]
                      conv => lhs; rw [e]
                      rw [fieldsL_append, HFs.out]; rfl
                    have HTw : Hid (ws.take (q + 1) = ws.take q ++ [ws[q]]) := List.take_succ_eq_append_getElem hlq
                    clear hbq
                    generalize ws[q] = wd at hwd HCp HWw HTw HWd4
                    have HNo : Hid (fieldR wd = none → schemaL text = none) := fun h => by
                      rw [HSc.out, HWs.out, compsL, HCo.out]
                      have : compP nm ws = none := compP_none (by rw [HWw.out, fieldsL, h])
                      rw [this]
                    have HNo2 : Hid (fieldsL zl (wd :: ws.drop (q + 1)) = none → schemaL text = none) := fun h => by
                      rw [HSc.out, HWs.out, compsL, HCo.out]
                      have : compP nm ws = none := compP_none (by rw [HWw.out, h])
                      rw [this]
                    have HOld : Hid (∀ W : World, Below w2.heap.size w2 W → Below w.heap.size w W) := fun W h => HB1.out.trans ((Below.trans HBo.out (h.mono hs2)).mono HB1.out.size)
                    go_wp2_with fail
                    refine Calls.mono HCp.out ?_
                    rintro e w5 ⟨vp, rfl, hownP, hB5⟩
                    obtain ⟨ap, cpp, rfl⟩ := own_form hownP
                    obtain ⟨pp, hpp⟩ : ∃ pp, pp = cutL 58 wd := ⟨_, rfl⟩
                    rw [← hpp] at hownP
                    rw [← hpp]
                    have hpl1 : 1 ≤ pp.length := by rw [hpp]; exact cutL_length _ _
                    have hpl2 : pp.length ≤ 401 := by rw [hpp]; have := cut_count 58 wd; have := HWd4.out; omega
                    obtain ⟨gp, rfl⟩ : ∃ gp, ap = some ⟨gp, 0, none⟩ := by
                      rcases hownP.2 with ⟨h, h2⟩ | ⟨g, cap, cur, h, _⟩
                      · omega
                      · simp at h; exact ⟨g, h.1⟩
                    have HB5 : Hid (Below wq.heap.size wq w5) := hB5
                    have HBq5 : Hid (Below w2.heap.size w2 w5) := Below.trans HBQ.out (hB5.mono (by omega))
                    have d0 : w5.cell? ⟨w2.heap.size, 0, none⟩ = some (.string (mk nm)) := (hB5.cell (p := ⟨w2.heap.size, 0, none⟩) hsq).trans hC0
                    have d1 : w5.cell? ⟨w2.heap.size, 1, none⟩ = some (.slice fa q fc) := (hB5.cell (p := ⟨w2.heap.size, 1, none⟩) hsq).trans hC1
                    have e0 : w5.frozen? ⟨w2.heap.size, 0, none⟩ = false := (hB5.frozen (p := ⟨w2.heap.size, 0, none⟩) hsq).trans hF0
                    have e1 : w5.frozen? ⟨w2.heap.size, 1, none⟩ = false := (hB5.frozen (p := ⟨w2.heap.size, 1, none⟩) hsq).trans hF1
                    have hs5 : w2.heap.size < w5.heap.size := Nat.lt_of_lt_of_le hsq hB5.size
                    have hgp : gp < w5.heap.size := (hownP.lt gp rfl).2
                    have hgp2 : w2.heap.size < gp := by have := (hownP.lt gp rfl).1; omega
                    have HOF5 : Hid (w5.ownsRow (w2.heap.size + 1) 109 2 (.slice fa q fc) q (fieldCells (zl.map bz))) := HOF.out.kept (grownBy_below hB5 none) (by cases (Value.slice fa q fc).ownBlock <;> simp)
                    have HOP : Hid (w5.ownsRow wq.heap.size 9 1 (.slice (some ⟨gp, 0, none⟩) pp.length cpp) pp.length (sCells pp)) := hownP
                    have HPP : Hid (pp = cutL 58 wd) := hpp
                    obtain ⟨pl, hpl⟩ : ∃ pl, pl = pp.length := ⟨_, rfl⟩
                    have HPl : Hid (pl = pp.length) := hpl
                    rw [← hpl] at hpl1 hpl2
                    rw [← hpl]
                    have hcpp : pl ≤ cpp := by
                      rw [hpl]
                      rcases hownP.2 with ⟨h, h2⟩ | ⟨g', cap, cur, h, _, _, h4, _⟩
                      · simp at h
                      · simp at h; omega
                    clear hownP hB5 hpp hpl hC0 hC1 hF0 hF1 hwd
                    go_wp2_with fail
                    go_cut [96] (fun s96 wx => ∃ bb : Bool, s96 = .bool bb ∧ Hid (bb = true → schemaL text = none) ∧ Hid (bb = false → ∃ a b, pp = [a, b] ∧ nameL a = true ∧ a ∉ zl.map Prod.fst) ∧ Below w5.heap.size w5 wx)
                    case first =>
                      by_cases hp2 : pl = 2
                      · subst hp2
                        obtain ⟨a, b, hab⟩ : ∃ a b, pp = [a, b] := by
                          have h2 := HPl.out
                          match pp, h2 with
                          | [a, b], _ => exact ⟨a, b, rfl⟩
                        have p0 : w5.cell? ⟨gp, 0, none⟩ = some (.string (mk a)) := by rw [HOP.out.cellAt 0 (by rw [← HPl.out]; omega), hab]; simp [sCells]
                        have HFr : Hid (fieldR wd = if nameL a = true ∧ kindL b ≠ 0 then some (a, kindL b) else none) := fieldR_two (by rw [← HPP.out, hab])
                        have HAl : Hid (a.length ≤ 1000) := by
                          show _ ≤ _
                          have := cut_small 58 wd a (by rw [← HPP.out, hab]; simp); have := HWd4.out; omega
                        have HAB : Hid (pp = [a, b]) := hab
                        clear hab
                        cases hname : nameL a with
                        | false =>
                          have HLa : Hid (∀ W, Calls Tryz.prog 84 #[.string (mk a)] W fun e w' => e = .returned (.bool false) ∧ W = w') := fun W => by
                            have := letters_any a W HAl.out
                            rw [hname] at this; exact this
                          have HNone : Hid (schemaL text = none) := HNo.out (by rw [HFr.out, hname]; simp)
                          clear hname
                          go_quiet ((go_at_call 84; exact Calls.quiet_of_same ((HLa.out _).mono fun e w' h => ⟨h.1, h.2.symm⟩)))
                          go_wp2_with fail
                          go_meet
                          exact ⟨true, rfl, fun _ => HNone.out, (fun h => nomatch h), ⟨rfl, rfl, rfl, Nat.le_refl _, fun _ _ => rfl⟩⟩
                        | true =>
                          have HLa : Hid (∀ W, Calls Tryz.prog 84 #[.string (mk a)] W fun e w' => e = .returned (.bool true) ∧ W = w') := fun W => by
                            have := letters_any a W HAl.out
                            rw [hname] at this; exact this
                          have HNa : Hid (nameL a = true) := hname
                          clear hname
                          go_region_with (first | (go_at_call 84; refine (HLa.out _).mono ?_; rintro e w6 ⟨rfl, rfl⟩) | (go_at_call 62; refine (look49_any (mk nm) (mk a) (.slice fa q fc) (w2.heap.size + 1) (zl.map bz) _ (by rw [List.length_map, HZl.out]; omega) (by rw [List.length_map, HZl.out]; exact HOF5.out)).mono ?_; rintro e w6 ⟨⟨r, rfl, hr⟩, hb6⟩; have HR : Hid _ := hr; have HB6 : Hid _ := hb6; clear hr hb6))
                          all_goals (try go_wp2_with fail)
                          all_goals go_meet
                          all_goals
                            refine ⟨decide (0 ≤ r), rfl, fun h => ?_, fun h => ⟨a, b, HAB.out, HNa.out, fun hm => ?_⟩, ⟨HB6.out.os, HB6.out.tape, HB6.out.output, HB6.out.size, HB6.out.block⟩⟩
                            · have hm : a ∈ zl.map Prod.fst := (mem_bz a zl).1 (HR.out.1 (by simpa using h))
                              refine HNo2.out ?_
                              rw [fieldsL, HFr.out]
                              by_cases hc : nameL a = true ∧ kindL b ≠ 0
                              · rw [if_pos hc]; simp only; rw [if_pos hm]
                              · rw [if_neg hc]
                            · have h1 := HR.out.2 ((mem_bz a zl).2 hm)
                              simp [h1] at h
                      · have HNone : Hid (schemaL text = none) := HNo.out (fieldR_other (by rw [← HPP.out, ← HPl.out]; exact hp2))
                        have hp2' : ((pl : Int) != 2) = true := by simp; omega
                        go_quiet (fail)
                        go_wp2_with fail
                        go_meet
                        exact ⟨true, rfl, fun _ => HNone.out, (fun h => nomatch h), ⟨rfl, rfl, rfl, Nat.le_refl _, fun _ _ => rfl⟩⟩
                    case rest =>
                      obtain ⟨bb, rfl, HT, HF, hbx⟩ := hcut
                      have HBX : Hid (Below w5.heap.size w5 wc) := hbx
                      cases bb with
                      | true =>
                        have HNone : Hid (schemaL text = none) := HT.out rfl
                        clear hbx
                        go_wp2_with fail
                        go_ret2
                        exact ⟨Or.inr ⟨HNone.out, rfl⟩, HOld.out _ (Below.trans HBq5.out (HBX.out.mono (Nat.le_of_lt hs5)))⟩
                      | false =>
                        obtain ⟨a, b, hab, hna, hnd⟩ := HF.out rfl
                        have hp2 : pl = 2 := by rw [HPl.out, hab]; rfl
                        subst hp2
                        have p0 : wc.cell? ⟨gp, 0, none⟩ = some (.string (mk a)) := by
                          rw [hbx.cell (p := ⟨gp, 0, none⟩) hgp, HOP.out.cellAt 0 (by rw [← HPl.out]; omega), hab]; simp [sCells]
                        have p1 : wc.cell? ⟨gp, 1, none⟩ = some (.string (mk b)) := by
                          rw [hbx.cell (p := ⟨gp, 1, none⟩) hgp, HOP.out.cellAt 1 (by rw [← HPl.out]; omega), hab]; simp [sCells]
                        have HFr : Hid (fieldR wd = if kindL b ≠ 0 then some (a, kindL b) else none) := by
                          show _ = _
                          rw [fieldR_two (a := a) (b := b) (by rw [← HPP.out, hab])]
                          simp [hna]
                        have HND : Hid (a ∉ zl.map Prod.fst) := hnd
                        have k0 : wc.cell? ⟨w2.heap.size, 0, none⟩ = some (.string (mk nm)) := (hbx.cell (p := ⟨w2.heap.size, 0, none⟩) hs5).trans d0
                        have k1 : wc.cell? ⟨w2.heap.size, 1, none⟩ = some (.slice fa q fc) := (hbx.cell (p := ⟨w2.heap.size, 1, none⟩) hs5).trans d1
                        have j0 : wc.frozen? ⟨w2.heap.size, 0, none⟩ = false := (hbx.frozen (p := ⟨w2.heap.size, 0, none⟩) hs5).trans e0
                        have j1 : wc.frozen? ⟨w2.heap.size, 1, none⟩ = false := (hbx.frozen (p := ⟨w2.heap.size, 1, none⟩) hs5).trans e1
                        have hsc : w2.heap.size < wc.heap.size := Nat.lt_of_lt_of_le hs5 hbx.size
                        have hgpc : gp < wc.heap.size := Nat.lt_of_lt_of_le hgp hbx.size
                        have HOFc : Hid (wc.ownsRow (w2.heap.size + 1) 109 2 (.slice fa q fc) q (fieldCells (zl.map bz))) := HOF5.out.kept (grownBy_below hbx none) (by cases (Value.slice fa q fc).ownBlock <;> simp)
                        have HBc : Hid (Below w2.heap.size w2 wc) := Below.trans HBq5.out (hbx.mono (Nat.le_of_lt hs5))
                        clear hbx d0 d1 e0 e1 hab hna hnd
                        go_wp2_with fail
                        go_loopw [14, 99] (fun kv t wk => ∃ m : Nat, m ≤ 5 ∧ t = .int .i64 m ∧ kv = .int .i64 (kindTo b m) ∧ wk = wc.alloc (.cells #[.string ⟨#[105, 110, 116]⟩, .string ⟨#[98, 111, 111, 108]⟩, .string ⟨#[116, 101, 120, 116]⟩, .string ⟨#[114, 101, 102]⟩, .string ⟨#[108, 105, 115, 116]⟩] 9))
                          (fun _ t _ => 5 - (intOf t).toNat)
                        case atStart => exact ⟨0, by omega, rfl, rfl, rfl⟩
                        case round =>
                          obtain ⟨m, hm, rfl, rfl, rfl⟩ := hrel
                          have c1 : (wc.alloc (.cells #[.string ⟨#[105, 110, 116]⟩, .string ⟨#[98, 111, 111, 108]⟩, .string ⟨#[116, 101, 120, 116]⟩, .string ⟨#[114, 101, 102]⟩, .string ⟨#[108, 105, 115, 116]⟩] 9)).cell? ⟨gp, 1, none⟩ = some (.string (mk b)) := by rw [World.cell?_alloc_old _ _ _ (Nat.ne_of_lt hgpc)]; exact p1
                          by_cases hm5 : m < 5
                          · have HCk : (wc.alloc (.cells #[.string ⟨#[105, 110, 116]⟩, .string ⟨#[98, 111, 111, 108]⟩, .string ⟨#[116, 101, 120, 116]⟩, .string ⟨#[114, 101, 102]⟩, .string ⟨#[108, 105, 115, 116]⟩] 9)).cell? ⟨wc.heap.size, m, none⟩ = some (.string (mk (kindsL.getD m []))) := by
                              rw [World.cell?_alloc_new]
                              match m, hm5 with
                              | 0, _ => rfl
                              | 1, _ => rfl
                              | 2, _ => rfl
                              | 3, _ => rfl
                              | 4, _ => rfl
                            have HKd : Hid (kindTo b (m + 1) = if kindsL.getD m [] = b then m + 1 else kindTo b m) := rfl
                            generalize kindsL.getD m [] = kw at HCk HKd
                            cases hEq : ((mk kw).toList == (mk b).toList) with
                            | true =>
                              have HKm : Hid (kindTo b (m + 1) = m + 1) := by
                                show _ = _
                                rw [toList_mk, toList_mk, beq_iff_eq] at hEq
                                rw [HKd.out, if_pos hEq]
                              go_wp2_with fail
                              go_roundw
                              case rel => exact ⟨m + 1, by omega, by go_num, by rw [HKm.out]; go_num, by first | rfl | trivial⟩
                              case measure => simp [intOf]; omega
                            | false =>
                              have HKm : Hid (kindTo b (m + 1) = kindTo b m) := by
                                show _ = _
                                rw [toList_mk, toList_mk, beq_eq_false_iff_ne] at hEq
                                rw [HKd.out, if_neg hEq]
                              go_wp2_with fail
                              go_roundw
                              case rel => exact ⟨m + 1, by omega, by go_num, by rw [HKm.out], by first | rfl | trivial⟩
                              case measure => simp [intOf]; omega
                          · obtain rfl : m = 5 := by omega
                            have HK5 : Hid (kindTo b 5 = kindL b) := kindTo_five b
                            rw [HK5.out]
                            obtain ⟨w6, hw6⟩ : ∃ w6, w6 = wc.alloc (.cells #[.string ⟨#[105, 110, 116]⟩, .string ⟨#[98, 111, 111, 108]⟩, .string ⟨#[116, 101, 120, 116]⟩, .string ⟨#[114, 101, 102]⟩, .string ⟨#[108, 105, 115, 116]⟩] 9) := ⟨_, rfl⟩
                            rw [← hw6]
                            have hB6 : Below wc.heap.size wc w6 := by rw [hw6]; exact (Below.refl _ _).alloc (Nat.le_refl _) _
                            have a0 : w6.cell? ⟨gp, 0, none⟩ = some (.string (mk a)) := (hB6.cell (p := ⟨gp, 0, none⟩) hgpc).trans p0
                            have m0 : w6.cell? ⟨w2.heap.size, 0, none⟩ = some (.string (mk nm)) := (hB6.cell (p := ⟨w2.heap.size, 0, none⟩) hsc).trans k0
                            have m1 : w6.cell? ⟨w2.heap.size, 1, none⟩ = some (.slice fa q fc) := (hB6.cell (p := ⟨w2.heap.size, 1, none⟩) hsc).trans k1
                            have n0 : w6.frozen? ⟨w2.heap.size, 0, none⟩ = false := (hB6.frozen (p := ⟨w2.heap.size, 0, none⟩) hsc).trans j0
                            have n1 : w6.frozen? ⟨w2.heap.size, 1, none⟩ = false := (hB6.frozen (p := ⟨w2.heap.size, 1, none⟩) hsc).trans j1
                            have hs6 : w2.heap.size < w6.heap.size := Nat.lt_of_lt_of_le hsc hB6.size
                            have hgp6 : gp < w6.heap.size := Nat.lt_of_lt_of_le hgpc hB6.size
                            have HOF6 : Hid (w6.drew.ownsRow (w2.heap.size + 1) 109 2 (.slice fa q fc) q (fieldCells (zl.map bz))) := HOFc.out.kept (grownBy_drew (grownBy_below hB6 none)) (by cases (Value.slice fa q fc).ownBlock <;> simp)
                            have HB26 : Hid (Below w2.heap.size w2 w6) := Below.trans HBc.out (hB6.mono (Nat.le_of_lt hsc))
                            have HB26d : Hid (Below w2.heap.size w2 w6.drew) := ⟨HB26.out.os, HB26.out.tape, HB26.out.output, HB26.out.size, HB26.out.block⟩
                            have HZ6 : Hid (w2.heap.size + 1 ≤ w6.drew.heap.size) := hs6
                            clear hB6 hw6 p0 k0 k1 j0 j1 c1 p1
                            by_cases hK : kindL b = 0
                            · have HNone : Hid (schemaL text = none) := HNo.out (by rw [HFr.out, if_neg (fun h => h hK)])
                              rw [hK]
                              clear hK
                              go_wp2_with fail
                              go_ret2
                              exact ⟨Or.inr ⟨HNone.out, rfl⟩, HOld.out _ HB26.out⟩
                            · have HFs2 : Hid (fieldR wd = some (a, kindL b)) := HFr.out.trans (if_pos hK)
                              have HN1 : Hid (fieldsL [] (ws.take (q + 1)) = some (zl ++ [(a, kindL b)])) := by
                                show _ = _
                                rw [HTw.out, fieldsL_append, HFs.out]
                                show fieldsL zl [wd] = _
                                rw [fieldsL, HFs2.out]; simp only; rw [if_neg HND.out]; rfl
                              have hK0 : ((kindL b : Int) == 0) = false := by simp; omega
                              clear hK
                              generalize kindL b = kb at HN1 hK0
                              go_wp2_with fail
                              go_region_law (refine step_append_own rfl (.tmp 115) (.tmp 121) 105 rfl (w2.heap.size + 1) 109 i9 (.agg #[.string ⟨#[]⟩, .int .i64 0]) 2 24 Tryz.underlying105 hi9 hy0 hy1 hy2 rfl (by decide) (.slice fa q fc) q (fieldCells (zl.map bz)) (by simp [Act.eval]) (HOF6.out.alloc _) ⟨w6.heap.size, 0, none⟩ 1 1 [.string (mk a), .int .i64 (kb : Int)] (by simp [Act.eval]) rfl (cell_two_new _ _ _ _) (fun x hx => by simp at hx; rcases hx with rfl | rfl <;> rfl) (by unfold maxLen; omega) (by omega) (by have := HZ6.out; simp; omega) ?_; intro v' w7 hown7 hgrow7; obtain ⟨gg, gc, rfl, q0, q1, f0, f1, hB7, hs7⟩ := row_step HOF6.out hown7 hgrow7 m0 m1 n0 n1 HZ6.out HB26d.out; have HO7 : Hid (w7.ownsRow (w2.heap.size + 1) 109 2 (.slice (some ⟨gg, 0, none⟩) (q + 1) gc) (q + 1) (fieldCells (zl.map bz) ++ [.string (mk a), .int .i64 (kb : Int)])) := hown7; have HB7 : Hid (Below w2.heap.size w2 w7) := hB7; clear hown7 hgrow7 hB7)
                              all_goals
                                go_wp2_with fail
                                go_roundw
                                case rel =>
                                  refine ⟨q + 1, zl ++ [(a, kb)], some ⟨gg, 0, none⟩, gc, by omega, by go_num, HN1, ?_, ?_, ?_, ?_, ?_, ?_, ?_, ?_⟩
                                  · show _ = _; rw [List.length_append, HZl.out]; rfl
                                  · have e : fieldCells ((zl ++ [(a, kb)]).map bz) = fieldCells (zl.map bz) ++ [.string (mk a), .int .i64 (kb : Int)] := by simp [fieldCells, bz]
                                    rw [e]
                                    exact ownsRow_setCell_below HO7.out (by simp) _
                                  · rw [set_other _ (by omega)]; exact q0
                                  · exact set_same _ q1
                                  · simpa using f0
                                  · simpa using f1
                                  · exact HB7.out.setCell (by simp) _
                                  · simpa using hs7
                                case measure => simp [intOf]; omega
                  · have hqn : q = ws.length := by omega
                    have HFin : Hid (fieldsL [] ws = some zl) := by
                      show _ = _
                      have := HFs.out
                      rw [hqn, List.take_length] at this
                      exact this
                    have HOq : Hid (wq.ownsRow w1.heap.size 107 2 (.slice sa k sc) k (compCells cs)) := HOut2.out.kept (grownBy_below hbq none) (by cases (Value.slice sa k sc).ownBlock <;> simp)
                    have HB1q : Hid (Below w1.heap.size w1 wq) := Below.trans HBo.out (hbq.mono hs2)
                    have hs1q : w1.heap.size ≤ wq.heap.size := HB1q.out.size
                    have HQn : Hid (q = ws.length) := hqn
                    clear hbq hqn
                    cases hEl : ((mk nm).toList == [101]) with
                    | true =>
                      have HE : Hid (nm = [101]) := by
                        show _ = _
                        rw [toList_mk, beq_iff_eq] at hEl; exact hEl
                      by_cases hq0 : q = 0
                      · have HNone : Hid (schemaL text = none) := by
                          show _ = _
                          rw [HSc.out, HWs.out, compsL, HCo.out]
                          have : compP nm ws = none := by
                            have hz : zl = [] := List.eq_nil_of_length_eq_zero (by rw [HZl.out, hq0])
                            unfold compP
                            rw [if_pos ⟨hfew, HNm.out⟩, HFin.out]
                            simp only
                            rw [if_pos ⟨HE.out, hz⟩]
                          rw [this]
                        subst hq0
                        go_wp2_with fail
                        go_ret2
                        exact ⟨Or.inr ⟨HNone.out, rfl⟩, HB1.out.trans (HB1q.out.mono HB1.out.size)⟩
                      · have HCm : Hid (compL ln = some (nm, zl)) := HCo.out.trans (compP_some hfew HNm.out HFin.out (fun h => hq0 (by have h1 := HZl.out; rw [h.2] at h1; exact h1.symm)))
                        have hq0' : ((q : Int) == 0) = false := by simp; omega
                        have HN1 : Hid (compsL [] (lt.take (k + 1)) = some (cl ++ [(nm, zl)])) := by
                          show _ = _
                          rw [HTk.out, compsL_append, HCs.out]
                          show compsL cl [ln] = _
                          rw [compsL, HCm.out]; simp only; rw [if_neg HDup.out]; rfl
                        go_wp2_with (at_builtin; refine wpList_append_own _ rfl _ _ 70 rfl w1.heap.size 107 i0 (.agg #[.string ⟨#[]⟩, .slice none 0 0]) 2 40 Tryz.underlying70 hi hz0 hz1 hz2 rfl (by decide) _ _ _ rfl (HOq.out.alloc _) ⟨wq.heap.size, 0, none⟩ 1 1 [.string (mk nm), .slice fa q fc] rfl rfl (cell_two_new _ _ _ _) (fun x hx => by simp at hx; rcases hx with rfl | rfl <;> rfl) (by unfold maxLen; omega) (by omega) (by simp; omega) ?_; intro v' w8 hown8 hgrow8 _; obtain ⟨gg, gc, rfl⟩ := own_succ hown8; have HO8 : Hid (w8.ownsRow w1.heap.size 107 2 (.slice (some ⟨gg, 0, none⟩) (k + 1) gc) (k + 1) (compCells cs ++ [.string (mk nm), .slice fa q fc])) := hown8; have HB8 : Hid (Below w1.heap.size w1 w8) := Below.grown (HB1q.out.alloc hs1q _) hgrow8 (by simp; omega) (fun j hj => (HOq.out.lt j hj).1); clear hown8 hgrow8)
                        go_roundw
                        case rel =>
                          refine ⟨k + 1, cs ++ [(mk nm, fa, q, fc)], cl ++ [(nm, zl)], some ⟨gg, 0, none⟩, gc, by omega, by go_num, rfl, HN1, ?_, ?_, ?_, HB8.out⟩
                          · show _ = _; rw [List.map_append, List.map_append, HNs.out]; rfl
                          · show _ = _; rw [List.length_append, HCL.out]; rfl
                          · have e : compCells (cs ++ [(mk nm, fa, q, fc)]) = compCells cs ++ [.string (mk nm), .slice fa q fc] := by simp [compCells]
                            rw [e]; exact HO8.out
                        case measure => simp [intOf]; omega
                    | false =>
                      have HCm : Hid (compL ln = some (nm, zl)) := HCo.out.trans (compP_some hfew HNm.out HFin.out (fun h => by rw [toList_mk, beq_eq_false_iff_ne] at hEl; exact hEl h.1))
                      have HN1 : Hid (compsL [] (lt.take (k + 1)) = some (cl ++ [(nm, zl)])) := by
                        show _ = _
                        rw [HTk.out, compsL_append, HCs.out]
                        show compsL cl [ln] = _
                        rw [compsL, HCm.out]; simp only; rw [if_neg HDup.out]; rfl
                      go_wp2_with (at_builtin; refine wpList_append_own _ rfl _ _ 70 rfl w1.heap.size 107 i0 (.agg #[.string ⟨#[]⟩, .slice none 0 0]) 2 40 Tryz.underlying70 hi hz0 hz1 hz2 rfl (by decide) _ _ _ rfl (HOq.out.alloc _) ⟨wq.heap.size, 0, none⟩ 1 1 [.string (mk nm), .slice fa q fc] rfl rfl (cell_two_new _ _ _ _) (fun x hx => by simp at hx; rcases hx with rfl | rfl <;> rfl) (by unfold maxLen; omega) (by omega) (by simp; omega) ?_; intro v' w8 hown8 hgrow8 _; obtain ⟨gg, gc, rfl⟩ := own_succ hown8; have HO8 : Hid (w8.ownsRow w1.heap.size 107 2 (.slice (some ⟨gg, 0, none⟩) (k + 1) gc) (k + 1) (compCells cs ++ [.string (mk nm), .slice fa q fc])) := hown8; have HB8 : Hid (Below w1.heap.size w1 w8) := Below.grown (HB1q.out.alloc hs1q _) hgrow8 (by simp; omega) (fun j hj => (HOq.out.lt j hj).1); clear hown8 hgrow8)
                      go_roundw
                      case rel =>
                        refine ⟨k + 1, cs ++ [(mk nm, fa, q, fc)], cl ++ [(nm, zl)], some ⟨gg, 0, none⟩, gc, by omega, by go_num, rfl, HN1, ?_, ?_, ?_, HB8.out⟩
                        · show _ = _; rw [List.map_append, List.map_append, HNs.out]; rfl
                        · show _ = _; rw [List.length_append, HCL.out]; rfl
                        · have e : compCells (cs ++ [(mk nm, fa, q, fc)]) = compCells cs ++ [.string (mk nm), .slice fa q fc] := by simp [compCells]
                          rw [e]; exact HO8.out
                      case measure => simp [intOf]; omega
            · have HNone : Hid (schemaL text = none) := by
                show _ = _
                rw [HSc.out, HWs.out, compsL, HCo.out]
                have : compP nm ws = none := by unfold compP; rw [if_neg (fun h => hfew h.1)]
                rw [this]
              go_wp2_with fail
              go_ret2
              exact ⟨Or.inr ⟨HNone.out, rfl⟩, HB1.out.trans ((HBo.out.alloc hs2 _).mono HB1.out.size)⟩
        · have hkn : k = n := by omega
          have HFin : Hid (schemaL text = some cl) := by
            show _ = _
            have := HCs.out
            rw [hkn, ← HLn.out, List.take_length] at this
            rw [HSc.out, this]
          have HLen : Hid (cl.length = k) := by
            show _ = _
            have h1 := congrArg List.length HNs.out
            simp only [List.length_map] at h1
            rw [← h1]; exact HCL.out
          clear hown hbw hkn
          go_wp2_with fail
          go_ret2
          refine ⟨Or.inl ⟨cl, HFin.out, sa, sc, ?_⟩, HB1.out.trans (Below.mono HBW.out HB1.out.size)⟩
          rw [HLen.out]; rfl
    · have HNone : Hid (schemaL text = none) := by
        show _ = _
        unfold schemaL
        rw [← HLs.out, HN.out, if_neg]
        rintro ⟨_, h1, h2, h3⟩
        exact hgood ⟨h1, by omega, by omega⟩
      by_cases hgl' : ls.getLast? = some []
      · rw [hgl'] at hlast
        have hlast2 : w1.cell? ⟨g, n, none⟩ = some (.string ⟨#[]⟩) := hlast
        clear hlast
        by_cases hn1 : 1 ≤ n
        · have hn6 : ¬ n ≤ 6 := fun h => hgood ⟨hgl', hn1, h⟩
          clear hgood hgl'
          go_wp2_with fail
          go_ret2
          exact ⟨Or.inr ⟨HNone.out, rfl⟩, HB1.out⟩
        · clear hgood hgl'
          go_wp2_with fail
          go_ret2
          exact ⟨Or.inr ⟨HNone.out, rfl⟩, HB1.out⟩
      · have hne : ((mk (ls.getLast?.getD [])).toList == []) = false := by
          rw [toList_mk, beq_eq_false_iff_ne]
          intro e
          cases hx : ls.getLast? with
          | none => rw [List.getLast?_eq_none_iff] at hx; rw [hx] at HN; have := HN.out; simp at this
          | some l => rw [hx] at e hgl'; simp at e; exact hgl' (by rw [e])
        clear hgood hgl'
        generalize mk (ls.getLast?.getD []) = lst at hlast hne
        go_wp2_with fail
        go_ret2
        exact ⟨Or.inr ⟨HNone.out, rfl⟩, HB1.out⟩
  · have h4' : (400 : Int) < ((mk text).size : Int) := by omega
    have HNone : Hid (schemaL text = none) := by show _ = _; unfold schemaL; rw [if_neg (fun h => h4 h.1)]
    have hb : (mk text).size ≤ 1000000000 := by omega
    clear hts
    go_enter Tryz.func43, Tryz.ntmps43
    go_wp2_with fail
    go_ret2
    exact ⟨Or.inr ⟨HNone.out, rfl⟩, Below.refl _ _⟩

end Go.Proofs.YthkbeaffkcfgiaaGreatDoor
