import Derived.Defers
import Derived.Recover
import Derived.Test.YthkbeaffkcfgiabGreatDoorR17
import Derived.Test.YthkbeaffkcfgiabGreatDoorR18
import Derived.Test.YthkbeaffkcfgiabGreatDoorR20
set_option linter.unusedSimpArgs false
set_option linter.unusedVariables false
namespace Go.Proofs.YthkbeaffkcfgiabGreatDoor
open Go.RowKit
def CompEndsN (w:World) (line:List UInt8) (e:Ending) (w':World):Prop:=(∃ c,compL line = some c ∧ ∃ fs,e = .returned (.agg #[.string (mk c.1),fs]) ∧ w'.ownsRow w.heap.size 135 2 fs c.2.length (fieldCells (c.2.map bz))) ∨ (compL line = none ∧ e = .panicked wrong)
set_option maxHeartbeats 1600000 in
theorem readComp_n (line:List UInt8) (m:Int) (w:World) (hsz:line.length < 500) (hm:w.cell? ⟨3,0,none⟩ = some (.int .i64 m)) :
 Calls Tryz.prog 195 #[.string (mk line)] w fun e w' => CompEndsN w line e w' ∧ Below w.heap.size w w':=by
 have h0:3 < w.heap.size:=World.block_lt_of_cell? w ⟨3,0,none⟩ hm
 obtain ⟨nm,ws,hps⟩:∃ nm ws,cutL 32 line = nm :: ws:=by
  cases h:cutL 32 line with
  | nil => exact absurd h (cutL_ne _ _)
  | cons a b => exact ⟨a,b,rfl⟩
 have HS:Hid (∀ o:Obj,Calls Tryz.prog 194 #[.string (mk line),.string ⟨#[32]⟩] (w.alloc o) fun e w' => e = .returned (.slice (some ⟨w.heap.size + 1,0,none⟩) (ws.length + 1) (ws.length + 1)) ∧ w' = (w.alloc o).alloc (.cells ((nm :: ws).map fun l => Value.string (mk l)).toArray 9)):=fun o => by
  have:=split_any 32 (mk line) m (w.alloc o) (by rw [size_mk];exact hsz) ((World.cell?_alloc_lt w o ⟨3,0,none⟩ h0).trans hm)
  rw [data_mk,hps,World.size_alloc] at this
  exact this
 have HCo:Hid (compL line = compP nm ws):=by
  show _ = _
  unfold compL;rw [hps]
 have hbig:ws.length < 600:=by
  have:=cut_count 32 line
  rw [hps] at this
  simp at this;omega
 have HSm:Hid (∀ p ∈ nm :: ws,p.length < 500):=fun p hp => by
  have:=cut_small 32 line p (by rw [hps];exact hp);omega
 have HM:Hid (w.cell? ⟨3,0,none⟩ = some (.int .i64 m)):=hm
 clear hm hps
 by_cases hfew:ws.length ≤ 4
 · by_cases hname:nameL nm = true
   · have HNm:Hid (NameOk (mk nm)):=(nameL_ok _).1 (by rw [data_mk];exact hname)
     have HNl:Hid (nameL nm = true):=hname
     clear hname
     obtain ⟨i0,hi,hz0,hz1,hz2⟩:=info_parts Tryz.info135
     by_cases hne:ws = []
     · subst hne
       go_enter Tryz.func195,Tryz.ntmps195
       go_wp2_with fail
       refine Calls.mono (HS.out _) ?_
       rintro e w1 ⟨rfl,rfl⟩
       go_wp2_with (go_at_call 193;refine (need_of _ _ ?_).mono ?_;(first | rfl | (simp;omega));rintro e w' ⟨rfl,rfl⟩)
       refine (readName_ok (mk nm) _ HNm.out).mono ?_
       rintro e w2 ⟨rfl,hb2⟩
       have HB:Hid (Below w.heap.size w w2):=(below_two _ _ _).trans (hb2.mono (by simp;omega))
       have hsz2:w.heap.size < w2.heap.size:=by have:=hb2.size;simp at this;omega
       have hc0:w2.cell? ⟨w.heap.size,0,none⟩ = some (.string ⟨#[]⟩):=by rw [hb2.cell (p:=⟨w.heap.size,0,none⟩) (by simp;omega),World.cell?_alloc_lt _ _ _ (by simp)];simp
       have hc1:w2.cell? ⟨w.heap.size,1,none⟩ = some (.slice none 0 0):=by rw [hb2.cell (p:=⟨w.heap.size,1,none⟩) (by simp;omega),World.cell?_alloc_lt _ _ _ (by simp)];simp
       have hf:∀ o,w2.frozen? ⟨w.heap.size,o,none⟩ = false:=fun o => by rw [hb2.frozen (p:=⟨w.heap.size,o,none⟩) (by simp;omega)];simp
       clear hb2
       by_cases hE:nm = [101]
       · have HCn:Hid (compL line = none):=HCo.out.trans (compP_e hE)
         have hEl:((mk nm).toList == [101]) = true:=by rw [toList_mk,hE];decide
         clear hE HCo
         go_wp2_with fail
         refine wp_loop_rounds 1 ?_
         rw [rounds_succ]
         go_wp2_with (go_at_call 193;refine (need_no _ _ ?_).mono ?_;(first | rfl | simp [hEl]);rintro e w' ⟨rfl,rfl⟩)
         exact ⟨rfl,Or.inr ⟨HCn.out,rfl⟩,HB.out.alloc HB.out.size _⟩
       · have HCn:Hid (compL line = some (nm,[])):=HCo.out.trans (compP_some (by simp) HNl.out rfl (fun h => hE h.1))
         have hEl:((mk nm).toList == [101]) = false:=by rw [toList_mk,beq_eq_false_iff_ne];exact hE
         clear hE HCo
         go_wp2_with fail
         refine wp_loop_rounds 1 ?_
         rw [rounds_succ]
         go_wp2_with (go_at_call 193;refine (need_of _ _ ?_).mono ?_;(first | rfl | simp [hEl]);rintro e w' ⟨rfl,rfl⟩)
         refine bodyPost_ret (v:=.agg #[.string (mk nm),.slice none 0 0]) ?_ rfl ⟨Or.inl ⟨_,HCn.out,.slice none 0 0,rfl,World.ownsRow_nil _ _ _ _⟩,?_⟩
         · have r0:(((w2.setCell ⟨w.heap.size,0,none⟩ (.string (mk nm))).setCell ⟨w.heap.size,1,none⟩ (.slice none 0 0)).alloc (.cells #[.string (mk nm),.slice none 0 0] 138)).cell? ⟨w.heap.size,0,none⟩ = some (.string (mk nm)):=by
            rw [World.cell?_alloc_lt _ _ _ (by simp;omega),set_other _ (by omega),set_same _ hc0]
           have r1:(((w2.setCell ⟨w.heap.size,0,none⟩ (.string (mk nm))).setCell ⟨w.heap.size,1,none⟩ (.slice none 0 0)).alloc (.cells #[.string (mk nm),.slice none 0 0] 138)).cell? ⟨w.heap.size,1,none⟩ = some (.slice none 0 0):=by
            rw [World.cell?_alloc_lt _ _ _ (by simp;omega),set_same (u:=.slice none 0 0) _ (by rw [set_other _ (by omega)];exact hc1)]
           simp [results,Tryz.results195,go_sem,r0,r1]
         · repeat (first | exact HB.out | refine Below.setCell ?_ (by simp) _ | refine Below.alloc ?_ (by simp;omega) _ | refine Below.drew ?_)
     · go_enter Tryz.func195,Tryz.ntmps195
       go_wp2_with fail
       refine Calls.mono (HS.out _) ?_
       rintro e w1 ⟨rfl,rfl⟩
       go_wp2_with (go_at_call 193;refine (need_of _ _ ?_).mono ?_;(first | rfl | (simp;omega));rintro e w' ⟨rfl,rfl⟩)
       refine (readName_ok (mk nm) _ HNm.out).mono ?_
       rintro e w2 ⟨rfl,hb2⟩
       have HB:Hid (Below w.heap.size w w2):=(below_two _ _ _).trans (hb2.mono (by simp;omega))
       have hsz2:w.heap.size + 1 < w2.heap.size:=by have:=hb2.size;simp at this;omega
       have hc0:w2.cell? ⟨w.heap.size,0,none⟩ = some (.string ⟨#[]⟩):=by rw [hb2.cell (p:=⟨w.heap.size,0,none⟩) (by simp;omega),World.cell?_alloc_lt _ _ _ (by simp)];simp
       have hc1:w2.cell? ⟨w.heap.size,1,none⟩ = some (.slice none 0 0):=by rw [hb2.cell (p:=⟨w.heap.size,1,none⟩) (by simp;omega),World.cell?_alloc_lt _ _ _ (by simp)];simp
       have hf:∀ o,w2.frozen? ⟨w.heap.size,o,none⟩ = false:=fun o => by rw [hb2.frozen (p:=⟨w.heap.size,o,none⟩) (by simp;omega)];simp
       have HP:Hid (∀ k (h:k < ws.length),w2.cell? ⟨w.heap.size + 1,1 + k,none⟩ = some (.string (mk ws[k]))):=fun k h => by
        rw [hb2.cell (p:=⟨w.heap.size + 1,1 + k,none⟩) (by simp)]
        have:=World.cell?_alloc_new (w.alloc (.cells #[.string ⟨#[]⟩,.slice none 0 0] 138)) ((nm :: ws).map fun l => Value.string (mk l)).toArray 9 (1 + k)
        rw [World.size_alloc] at this
        rw [show 1 + k = k + 1 from by omega] at this ⊢
        simp only [List.map_cons] at this
        rw [this]
        simp [h]
       have H0:Hid (w2.cell? ⟨3,0,none⟩ = some (.int .i64 m)):=(HB.out.cell (p:=⟨3,0,none⟩) h0).trans HM.out
       have X0:Hid (w2.cell? ⟨w.heap.size,0,none⟩ = some (.string ⟨#[]⟩) ∧ w2.cell? ⟨w.heap.size,1,none⟩ = some (.slice none 0 0) ∧ ∀ o,w2.frozen? ⟨w.heap.size,o,none⟩ = false):=⟨hc0,hc1,hf⟩
       clear hb2 hc0 hc1 hf
       go_wp2_with fail
       go_loopw [22] (fun t wr => ∃ (k:Nat) (v:Value) (zl:List (List UInt8 × Nat)),k ≤ ws.length ∧ t = .int .i64 k ∧ Hid (fieldsL [] (ws.take k) = some zl) ∧ Hid (zl.length = k) ∧ wr.ownsRow (w2.heap.size + 1) 135 2 v k (fieldCells (zl.map bz)) ∧ wr.cell? ⟨w2.heap.size,0,none⟩ = some (.string (mk nm)) ∧ wr.cell? ⟨w2.heap.size,1,none⟩ = some v ∧ wr.frozen? ⟨w2.heap.size,0,none⟩ = false ∧ wr.frozen? ⟨w2.heap.size,1,none⟩ = false ∧ Below w2.heap.size w2 wr ∧ w2.heap.size < wr.heap.size)
        (fun t _ => ws.length - (intOf t).toNat)
       case atStart => exact ⟨0,.slice none 0 0,[],by omega,rfl,rfl,rfl,World.ownsRow_nil _ _ _ _,by simp,by simp,by simp,by simp,(Below.refl _ _).alloc (Nat.le_refl _) _,by simp⟩
       case round =>
        obtain ⟨k,v,zl,hk,rfl,HFs,HZl,hown,hC0,hC1,hF0,hF1,hbw,hlt0⟩:=hrel
        have HBW:Hid (Below w2.heap.size w2 wr):=hbw
        have HO:Hid (wr.ownsRow (w2.heap.size + 1) 135 2 v k (fieldCells (zl.map bz))):=hown
        by_cases hlt:k < ws.length
        · have hw:wr.cell? ⟨w.heap.size + 1,1 + k,none⟩ = some (.string (mk ws[k])):=(hbw.cell (p:=⟨w.heap.size + 1,1 + k,none⟩) hsz2).trans (HP.out k hlt)
          have HFd:Hid _:=readField_any ws[k] m wr (HSm.out _ (by simp)) ((hbw.cell (p:=⟨3,0,none⟩) (by simp;omega)).trans H0.out)
          have HAp:Hid (∀ r,fieldsL [] ws = (fieldsL zl (ws[k] :: r)) → True):=fun _ _ => trivial
          have HWs:Hid (fieldsL [] ws = fieldsL zl (ws[k] :: ws.drop (k + 1))):=by
           show _ = _
           have e:ws = ws.take k ++ ws[k] :: ws.drop (k + 1):=by rw [← List.drop_eq_getElem_cons hlt,List.take_append_drop]
           conv => lhs;rw [e]
           rw [fieldsL_append,HFs.out];rfl
          have HTk:Hid (ws.take (k + 1) = ws.take k ++ [ws[k]]):=List.take_succ_eq_append_getElem hlt
          clear hbw hown HAp
          generalize ws[k] = wd at hw HFd HWs HTk
          go_wp2_with fail
          refine Calls.mono HFd.out ?_
          rintro e w3 ⟨hends,hb3⟩
          have HB3:Hid (Below wr.heap.size wr w3):=hb3
          rcases hends with ⟨f,hf,rfl⟩ | ⟨hf,rfl⟩
          · have d0:w3.cell? ⟨w2.heap.size,0,none⟩ = some (.string (mk nm)):=(hb3.cell (p:=⟨w2.heap.size,0,none⟩) hlt0).trans hC0
            have d1:w3.cell? ⟨w2.heap.size,1,none⟩ = some v:=(hb3.cell (p:=⟨w2.heap.size,1,none⟩) hlt0).trans hC1
            have e0:w3.frozen? ⟨w2.heap.size,0,none⟩ = false:=(hb3.frozen (p:=⟨w2.heap.size,0,none⟩) hlt0).trans hF0
            have e1:w3.frozen? ⟨w2.heap.size,1,none⟩ = false:=(hb3.frozen (p:=⟨w2.heap.size,1,none⟩) hlt0).trans hF1
            have hs3:w2.heap.size < w3.heap.size:=Nat.lt_of_lt_of_le hlt0 hb3.size
            have HO3:Hid (w3.ownsRow (w2.heap.size + 1) 135 2 v k (fieldCells (zl.map bz))):=HO.out.kept (grownBy_below hb3 none) (by cases v.ownBlock <;> simp)
            have HF:Hid (fieldR wd = some f):=hf
            clear hb3 hC0 hC1 hF0 hF1 hw hf
            obtain ⟨sa,sc,rfl⟩:=own_form HO.out
            have HFi:Hid _:=find104_any (mk nm) (mk f.1) (.slice sa k sc) (w2.heap.size + 1) (zl.map bz) (w3.alloc (.cells #[.string (mk f.1),.int .i64 (f.2:Int)] 135)) (by rw [List.length_map,HZl.out];omega) (by rw [List.length_map,HZl.out];exact HO3.out.alloc _)
            go_wp2_with fail
            refine Calls.mono HFi.out ?_
            rintro e w5 ⟨⟨r,rfl,hr⟩,hb5⟩
            have b0:w5.cell? ⟨w3.heap.size,0,none⟩ = some (.string (mk f.1)):=by rw [hb5.cell (p:=⟨w3.heap.size,0,none⟩) (by simp)];simp
            have b1:w5.cell? ⟨w3.heap.size,1,none⟩ = some (.int .i64 (f.2:Int)):=by rw [hb5.cell (p:=⟨w3.heap.size,1,none⟩) (by simp)];simp
            have HB5:Hid (Below w3.heap.size w3 w5):=((Below.refl _ _).alloc (Nat.le_refl _) _).trans (hb5.mono (by simp))
            have HB2:Hid (Below w2.heap.size w2 w5):=(Below.trans HBW.out (HB3.out.mono (by omega))).trans (HB5.out.mono (by omega))
            rw [mem_bz] at hr
            by_cases hdup:f.1 ∈ zl.map Prod.fst
            · have hr0:¬ r < 0:=fun h => (hr.1 h) hdup
              have HCn:Hid (compL line = none):=HCo.out.trans (compP_none (by rw [HWs.out,fieldsL,HF.out];simp only;rw [if_pos hdup]))
              clear hdup hr hb5
              go_wp2_with (go_at_call 193;refine (need_no _ _ ?_).mono ?_;(first | rfl | (simp;omega));rintro e w' ⟨rfl,rfl⟩)
              exact ⟨rfl,Or.inr ⟨HCn.out,rfl⟩,HB.out.trans (HB2.out.mono (by omega))⟩
            · have hr0:r < 0:=hr.2 hdup
              have HN1:Hid (fieldsL [] (ws.take (k + 1)) = some (zl ++ [f])):=by
               show _ = _
               rw [HTk.out,fieldsL_append,HFs.out]
               show fieldsL zl [wd] = _
               rw [fieldsL,HF.out];simp only;rw [if_neg hdup];rfl
              have g0:w5.cell? ⟨w2.heap.size,0,none⟩ = some (.string (mk nm)):=(HB5.out.cell (p:=⟨w2.heap.size,0,none⟩) hs3).trans d0
              have g1:w5.cell? ⟨w2.heap.size,1,none⟩ = some (.slice sa k sc):=(HB5.out.cell (p:=⟨w2.heap.size,1,none⟩) hs3).trans d1
              have k0:w5.frozen? ⟨w2.heap.size,0,none⟩ = false:=(HB5.out.frozen (p:=⟨w2.heap.size,0,none⟩) hs3).trans e0
              have k1:w5.frozen? ⟨w2.heap.size,1,none⟩ = false:=(HB5.out.frozen (p:=⟨w2.heap.size,1,none⟩) hs3).trans e1
              have hs5:w2.heap.size < w5.heap.size:=Nat.lt_of_lt_of_le hs3 HB5.out.size
              have hown5:w5.ownsRow (w2.heap.size + 1) 135 2 (.slice sa k sc) k (fieldCells (zl.map bz)):=HO3.out.kept (grownBy_below HB5.out none) (by cases (Value.slice sa k sc).ownBlock <;> simp)
              clear hb5 d0 d1 e0 e1 hdup hr
              go_wp2_with (first | (go_at_call 193;refine (need_of _ _ ?_).mono ?_;(first | rfl | (simp;omega));rintro e w' ⟨rfl,rfl⟩) | (at_builtin;refine wpList_append_own _ rfl _ _ 136 rfl (w2.heap.size + 1) 135 i0 (.agg #[.string ⟨#[]⟩,.int .i64 0]) 2 24 Tryz.underlying136 hi hz0 hz1 hz2 rfl (by decide) _ _ _ rfl (hown5.alloc _) ⟨w5.heap.size,0,none⟩ 1 1 [.string (mk f.1),.int .i64 (f.2:Int)] rfl rfl (cell_two_new _ _ _ _) (fun x hx => by simp at hx;rcases hx with rfl | rfl <;> rfl) (by unfold maxLen;omega) (by omega) (by simp;omega) ?_;intro v' w6 hown6 hgrow6 _;obtain ⟨gg,gc,rfl,q0,q1,f0,f1,hB6,hs6⟩:=row_step hown5 hown6 hgrow6 g0 g1 k0 k1 hs5 HB2.out;have HO6:Hid (w6.ownsRow (w2.heap.size + 1) 135 2 (.slice (some ⟨gg,0,none⟩) (k + 1) gc) (k + 1) (fieldCells (zl.map bz) ++ [.string (mk f.1),.int .i64 (f.2:Int)])):=hown6;have HB6:Hid (Below w2.heap.size w2 w6):=hB6;clear hown5 hown6 hgrow6 g0 g1 k0 k1 hB6))
              go_roundw
              case rel =>
               refine ⟨k + 1,.slice (some ⟨gg,0,none⟩) (k + 1) gc,zl ++ [f],by omega,by go_num,HN1,?_,?_,?_,?_,?_,?_,?_,?_⟩
               · show _ = _;rw [List.length_append,HZl.out];rfl
               · have e:fieldCells ((zl ++ [f]).map bz) = fieldCells (zl.map bz) ++ [.string (mk f.1),.int .i64 (f.2:Int)]:=by simp [fieldCells,bz]
                 rw [e]
                 exact ownsRow_setCell_below HO6.out (by simp) _
               · rw [set_other _ (by omega)];exact q0
               · exact set_same _ q1
               · simpa using f0
               · simpa using f1
               · exact HB6.out.setCell (by simp) _
               · simpa using hs6
              case measure => simp [intOf];omega
          · have HCn:Hid (compL line = none):=HCo.out.trans (compP_none (by rw [HWs.out,fieldsL,hf]))
            clear hf hb3
            go_wp2_with fail
            exact ⟨rfl,Or.inr ⟨HCn.out,rfl⟩,HB.out.trans ((Below.trans HBW.out (HB3.out.mono (by omega))).mono (by omega))⟩
        · obtain ⟨sa,sc,rfl⟩:=own_form hown
          have hkl:k = ws.length:=by omega
          have HCn:Hid (compL line = some (nm,zl)):=HCo.out.trans (compP_some hfew HNl.out (by
           have:=HFs.out;rw [hkl,List.take_length] at this;exact this) (fun h => by
            have h1:=HZl.out;rw [h.2] at h1;simp at h1
            exact hne (List.eq_nil_of_length_eq_zero (by omega))))
          have hk0:(0:Int) < (k:Int):=by
           have:ws.length ≠ 0:=fun h => hne (List.eq_nil_of_length_eq_zero h)
           omega
          have r0:wr.cell? ⟨w.heap.size,0,none⟩ = some (.string ⟨#[]⟩):=(hbw.cell (p:=⟨w.heap.size,0,none⟩) (by simp;omega)).trans X0.out.1
          have r1:wr.cell? ⟨w.heap.size,1,none⟩ = some (.slice none 0 0):=(hbw.cell (p:=⟨w.heap.size,1,none⟩) (by simp;omega)).trans X0.out.2.1
          have f0:∀ o,wr.frozen? ⟨w.heap.size,o,none⟩ = false:=fun o => (hbw.frozen (p:=⟨w.heap.size,o,none⟩) (by simp;omega)).trans (X0.out.2.2 o)
          clear hown hbw hkl
          cases hEl:((mk nm).toList == [101])
          all_goals
           go_wp2_with (go_at_call 193;refine (need_of _ _ ?_).mono ?_;(first | rfl | (simp;done) | (simp;omega));rintro e w' ⟨rfl,rfl⟩)
           refine bodyPost_ret (v:=.agg #[.string (mk nm),.slice sa k sc]) ?_ rfl ⟨Or.inl ⟨_,HCn.out,.slice sa k sc,rfl,by show World.ownsRow _ _ _ _ _ zl.length _;rw [HZl.out];exact own_base (ownsRow_setCell_below (ownsRow_setCell_below HO.out (by simp;omega) _) (by simp;omega) _) (by omega)⟩,?_⟩
           · have t0:((wr.setCell ⟨w.heap.size,0,none⟩ (.string (mk nm))).setCell ⟨w.heap.size,1,none⟩ (.slice sa k sc)).cell? ⟨w.heap.size,0,none⟩ = some (.string (mk nm)):=by
              rw [set_other _ (by omega),set_same _ r0]
             have t1:((wr.setCell ⟨w.heap.size,0,none⟩ (.string (mk nm))).setCell ⟨w.heap.size,1,none⟩ (.slice sa k sc)).cell? ⟨w.heap.size,1,none⟩ = some (.slice sa k sc):=by
              rw [set_same (u:=.slice none 0 0) _ (by rw [set_other _ (by omega)];exact r1)]
             simp [results,Tryz.results195,go_sem,t0,t1]
           · exact ((HB.out.trans (Below.mono HBW.out (by omega))).setCell (by simp) _).setCell (by simp) _
   · have HNm:Hid (¬ NameOk (mk nm)):=fun h => hname (by have:=(nameL_ok _).2 h;rw [data_mk] at this;exact this)
     have HCn:Hid (compL line = none):=by show _ = _;rw [HCo.out];unfold compP;rw [if_neg (fun h => hname h.2)]
     have HZ:Hid ((mk nm).size ≤ 1000000000):=by show _ ≤ _;rw [size_mk];have:=HSm.out nm (by simp);omega
     clear HCo hname
     go_enter Tryz.func195,Tryz.ntmps195
     go_wp2_with fail
     refine Calls.mono (HS.out _) ?_
     rintro e w1 ⟨rfl,rfl⟩
     go_wp2_with (go_at_call 193;refine (need_of _ _ ?_).mono ?_;(first | rfl | (simp;omega));rintro e w' ⟨rfl,rfl⟩)
     refine (readName_no (mk nm) _ HZ.out HNm.out).mono ?_
     rintro e w2 ⟨rfl,rfl⟩
     go_wp2_with fail
     exact ⟨rfl,Or.inr ⟨HCn.out,rfl⟩,below_two _ _ _⟩
 · have HCn:Hid (compL line = none):=by show _ = _;rw [HCo.out];unfold compP;rw [if_neg (fun h => hfew h.1)]
   clear HCo
   go_enter Tryz.func195,Tryz.ntmps195
   go_wp2_with fail
   refine Calls.mono (HS.out _) ?_
   rintro e w1 ⟨rfl,rfl⟩
   go_wp2_with (go_at_call 193;refine (need_no _ _ ?_).mono ?_;(first | rfl | (simp;omega));rintro e w' ⟨rfl,rfl⟩)
   exact ⟨rfl,Or.inr ⟨HCn.out,rfl⟩,below_two _ _ _⟩
def LoF (W:World) (base g:Nat) (L:List CompS):Prop:=∀ j,j < L.length → ∀ fs,W.cell? ⟨g,j * 2 + 1,none⟩ = some fs → ∀ k,fs.ownBlock = some k → base ≤ k
theorem LayN.keep2 {w w':World} {b0 base g:Nat} {L:List CompS} (h:LayN w b0 g L) (hlo:LoF w base g L) (hg:base ≤ g) (hs:w.heap.size ≤ w'.heap.size) (hb:∀ k,base ≤ k → k < w.heap.size → w'.heap[k]? = w.heap[k]?):LayN w' b0 g L :=
 ⟨h.lt,Nat.le_trans h.le hs,h.few,fun j hj => by
  have hgl:g < w.heap.size:=Nat.lt_of_lt_of_le h.lt h.le
  obtain ⟨h1,h2,fs,h3,h4,h5⟩:=h.comp j hj
  exact ⟨h1,(World.cell?_of_block (a:=⟨g,j * 2,none⟩) (hb g hg hgl)).trans h2,fs,(World.cell?_of_block (a:=⟨g,j * 2 + 1,none⟩) (hb g hg hgl)).trans h3,h4.keep hs fun k hk hkl => hb k (hlo j hj fs h3 k hk) hkl,h5⟩⟩
def LayEndsN (w:World) (text:List UInt8) (e:Ending) (w':World):Prop:=(∃ cs,schemaL text = some cs ∧ ∃ g c,e = .returned (.slice (some ⟨g,0,none⟩) cs.length c) ∧ w.heap.size ≤ g ∧ cs.length ≤ c ∧ LayN w' w'.heap.size g cs ∧ LoF w' w.heap.size g cs) ∨ (schemaL text = none ∧ e = .panicked wrong)
theorem fieldR_ok {word:List UInt8} {f:List UInt8 × Nat} (h:fieldR word = some f):f.1.length ≤ 8 ∧ 1 ≤ f.2 ∧ f.2 ≤ 5:=by
 unfold fieldR at h
 split at h
 · split at h
   · rename_i a b _ hk
     obtain ⟨hn,hk⟩:=hk
     simp at h
     rw [← h]
     unfold nameL at hn
     simp only [Bool.and_eq_true,decide_eq_true_eq] at hn
     refine ⟨hn.1.2,by omega,?_⟩
     show kindL b ≤ 5
     unfold kindL
     split
     · omega
     · split
       · omega
       · split
         · omega
         · split
           · omega
           · split <;> omega
   · cases h
 · cases h
theorem fieldsL_ok:∀ (ws:List (List UInt8)) (acc zs:List (List UInt8 × Nat)),fieldsL acc ws = some zs → (∀ f ∈ acc,f.1.length ≤ 8 ∧ 1 ≤ f.2 ∧ f.2 ≤ 5) → ∀ f ∈ zs,f.1.length ≤ 8 ∧ 1 ≤ f.2 ∧ f.2 ≤ 5
 | [],acc,zs,h,ha => by simp [fieldsL] at h;rw [← h];exact ha
 | w :: ws,acc,zs,h,ha => by
  rw [fieldsL] at h
  split at h
  · cases h
  · rename_i f hf
    split at h
    · cases h
    · refine fieldsL_ok ws _ zs h fun g hg => ?_
      rcases List.mem_append.1 hg with h | h
      · exact ha g h
      · simp at h;rw [h];exact fieldR_ok hf
theorem compL_ok {line:List UInt8} {c:List UInt8 × List (List UInt8 × Nat)} (h:compL line = some c):CompOk c:=by
 unfold compL at h
 split at h
 · cases h
 · rename_i nm ws _
   unfold compP at h
   split at h
   · rename_i hk
     split at h
     · cases h
     · rename_i zs hz
       split at h
       · cases h
       · simp at h
         rw [← h]
         have hn:=hk.2
         unfold nameL at hn
         simp only [Bool.and_eq_true,decide_eq_true_eq] at hn
         refine ⟨hn.1.2,?_,fieldsL_ok ws [] zs hz (by simp)⟩
         have:=fieldsL_length ws [] zs hz
         simp at this
         show zs.length ≤ 4
         omega
   · cases h
theorem fields_own {W:World} {B:Nat} {fs:Value} {fl:List (List UInt8 × Nat)} (h:W.ownsRow B 135 2 fs fl.length (fieldCells (fl.map bz))):FieldsN W fs fl:=by
 rcases h.2 with ⟨h1,h2⟩ | ⟨g,cap,cur,h1,h2,h3,h4,h5,h7,h8⟩
 · exact Or.inl ⟨h1,List.eq_nil_of_length_eq_zero h2⟩
 · refine Or.inr ⟨g,cap,h1,h4,(Array.getElem?_eq_some_iff.1 h3).1,fun j hj => ?_⟩
   subst h1
   obtain ⟨e1,e2⟩:=flat2_get (fun z:ByteArray × Int => Value.string z.1) (fun z => Value.int .i64 z.2) (fl.map bz) j (by simpa using hj)
   exact ⟨(h.cellAt (j * 2) (by omega)).trans (by unfold fieldCells;rw [e1];simp [bz]),(h.cellAt (j * 2 + 1) (by omega)).trans (by unfold fieldCells;rw [e2];simp [bz])⟩
def RowsF (W:World) (B:Nat) (cs:List (ByteArray × (Option Addr × Nat × Nat))) (cl:List (List UInt8 × List (List UInt8 × Nat))):Prop :=
 ∀ (j:Nat) (z:ByteArray × (Option Addr × Nat × Nat)) (c:List UInt8 × List (List UInt8 × Nat)),cs[j]? = some z → cl[j]? = some c → W.ownsRow B 135 2 (.slice z.2.1 z.2.2.1 z.2.2.2) c.2.length (fieldCells (c.2.map bz))
theorem RowsF.keepT {W W':World} {B:Nat} {cs:List (ByteArray × (Option Addr × Nat × Nat))} {cl:List (List UInt8 × List (List UInt8 × Nat))} (h:RowsF W B cs cl) (hb:∀ i xs,B ≤ i → W.heap[i]? = some (.cells xs 135 (0,0)) → W'.heap[i]? = W.heap[i]?):RowsF W' B cs cl :=
 fun j z c h1 h2 => own_keepT (h j z c h1 h2) hb
theorem RowsF.push {W:World} {B:Nat} {cs:List (ByteArray × (Option Addr × Nat × Nat))} {cl:List (List UInt8 × List (List UInt8 × Nat))} {nm:ByteArray} {sa:Option Addr} {sn sc:Nat} {f:List UInt8 × List (List UInt8 × Nat)} (h:RowsF W B cs cl) (hf:W.ownsRow B 135 2 (.slice sa sn sc) f.2.length (fieldCells (f.2.map bz))) (hl:cs.length = cl.length):RowsF W B (cs ++ [(nm,sa,sn,sc)]) (cl ++ [f]):=fun j z c h1 h2 => by
 by_cases hj:j < cs.length
 · rw [List.getElem?_append_left hj] at h1
   rw [List.getElem?_append_left (by omega)] at h2
   exact h j z c h1 h2
 · have hlt:j < (cs ++ [(nm,sa,sn,sc)]).length:=(List.getElem?_eq_some_iff.1 h1).1
   simp at hlt
   obtain rfl:j = cs.length:=by omega
   simp at h1
   rw [hl] at h2
   simp at h2
   rw [← h1,← h2]
   exact hf
theorem RowsF.grown {W W6:World} {B k:Nat} {cs:List (ByteArray × (Option Addr × Nat × Nat))} {cl:List (List UInt8 × List (List UInt8 × Nat))} {u:Value} {xs:List Value} {o:Obj} (h:RowsF W B cs cl) (hu:W.ownsRow B 138 2 u k xs) (hg:(W.alloc o).grownBy W6 u.ownBlock):RowsF W6 B cs cl :=
 h.keepT fun i ys _ hi => by
  have hlt:=(Array.getElem?_eq_some_iff.1 hi).1
  rw [hg.block i (by simp;omega) (fun e => ?_),Below.heap_alloc _ _ _ hlt]
  rcases hu.2 with ⟨q,_⟩ | ⟨g',cap',cur',q,_,q3,_⟩
  · rw [q] at e;cases e
  · rw [q] at e;simp [Value.ownBlock] at e;subst e;exact type_ne hi q3 (by decide) rfl
theorem layN_own {W:World} {base k c:Nat} {sa:Option Addr} {cs:List (ByteArray × (Option Addr × Nat × Nat))} {cl:List (List UInt8 × List (List UInt8 × Nat))} (h:W.ownsRow (base + 1) 138 2 (.slice sa k c) k (compCells cs)) (hl:cs.length = k) (hn:cs.map Prod.fst = cl.map fun c => mk c.1) (h1:0 < k) (h6:k ≤ 6) (hr:RowsF W (base + 1) cs cl) (hok:∀ c ∈ cl,CompOk c) :
 ∃ g,sa = some ⟨g,0,none⟩ ∧ base ≤ g ∧ cl.length ≤ c ∧ k = cl.length ∧ LayN W W.heap.size g cl ∧ LoF W base g cl:=by
 have hcl:cs.length = cl.length:=by have:=congrArg List.length hn;simpa using this
 rcases h.2 with ⟨_,h2⟩ | ⟨g,cap,cur,q1,q2,q3,q4,q5,q7,q8⟩
 · omega
 · simp at q1
   obtain ⟨rfl,rfl⟩:=q1
   refine ⟨g,rfl,by omega,by omega,by omega,⟨(Array.getElem?_eq_some_iff.1 q3).1,Nat.le_refl _,by omega,fun j hj => ?_⟩,fun j hj fs hfs b hb => ?_⟩
   rotate_left
   · have hjc:j < cs.length:=by omega
     have hrow:=hr j cs[j] cl[j] (List.getElem?_eq_getElem hjc) (List.getElem?_eq_getElem hj)
     obtain ⟨e1,e2⟩:=flat2_get (fun z:ByteArray × (Option Addr × Nat × Nat) => Value.string z.1) (fun z => Value.slice z.2.1 z.2.2.1 z.2.2.2) cs j hjc
     have:=(h.cellAt (j * 2 + 1) (by omega)).trans e2
     rw [this] at hfs
     simp only [Option.some.injEq] at hfs
     rw [← hfs] at hb
     have:=(hrow.lt b hb).1
     omega
   have hjc:j < cs.length:=by omega
   obtain ⟨e1,e2⟩:=flat2_get (fun z:ByteArray × (Option Addr × Nat × Nat) => Value.string z.1) (fun z => Value.slice z.2.1 z.2.2.1 z.2.2.2) cs j hjc
   have hrow:=hr j cs[j] cl[j] (List.getElem?_eq_getElem hjc) (List.getElem?_eq_getElem hj)
   have hnm:cs[j].1 = mk cl[j].1:=by
    have:=congrArg (fun l => l[j]?) hn
    simpa [hjc,hj] using this
   refine ⟨hok _ (List.getElem_mem hj),?_,_,(h.cellAt (j * 2 + 1) (by omega)).trans e2,fields_own hrow,fun b hb => (hrow.lt b hb).2⟩
   rw [← hnm]
   exact (h.cellAt (j * 2) (by omega)).trans e1
set_option maxHeartbeats 1600000 in
theorem readLayout_n (text:List UInt8) (m:Int) (w:World) (hsz:text.length ≤ 1000000000) (hm:w.cell? ⟨3,0,none⟩ = some (.int .i64 m)) :
 Calls Tryz.prog 127 #[.string (mk text)] w fun e w' => LayEndsN w text e w' ∧ Below w.heap.size w w':=by
 have h0:3 < w.heap.size:=World.block_lt_of_cell? w ⟨3,0,none⟩ hm
 have hts:(mk text).size = text.length:=size_mk text
 by_cases h4:text.length ≤ 400
 · have HCut:Hid (Calls Tryz.prog 182 #[.string (mk text),.string ⟨#[10]⟩] w fun e w' => e = .returned (.tuple #[.string (mk (Lib.trimSuffix text [10])),.bool (Lib.hasSuffix text [10])]) ∧ w = w'):=by
    have:=Tryz.strings_CutSuffix (mk text) ⟨#[10]⟩ w (by omega)
    rw [show (⟨#[10]⟩:ByteArray).data.toList = [10] from rfl,data_mk] at this
    exact this.mono fun e w' h => ⟨h.1,h.2.symm⟩
   have hsz4:(mk text).size ≤ 400:=by omega
   clear hts
   rcases suffix_cases text with ⟨hs,hn⟩ | ⟨hs,body,hb,ht⟩
   · rw [hs] at HCut
     have HN:Hid (schemaL text = none):=hn
     clear hn hs hm
     generalize mk (Lib.trimSuffix text [10]) = bd at HCut
     go_enter Tryz.func127,Tryz.ntmps127
     go_wp2_with (go_at_call 193;refine (need_of _ _ ?_).mono ?_;(first | rfl | (simp;omega));rintro e w' ⟨rfl,rfl⟩)
     refine Calls.mono HCut.out ?_
     rintro e w1 ⟨rfl,rfl⟩
     go_wp2_with (go_at_call 193;refine (need_no _ _ ?_).mono ?_;(first | rfl | (simp;omega));rintro e w' ⟨rfl,rfl⟩)
     exact ⟨rfl,Or.inr ⟨HN.out,rfl⟩,Below.refl _ _⟩
   · rw [hs,ht] at HCut
     have HSch:Hid (schemaL text = if (cutL 10 body).length ≤ 6 then compsL [] (cutL 10 body) else none):=by
      show _ = _
      rw [hb,schemaL_body]
      by_cases h6:(cutL 10 body).length ≤ 6
      · rw [if_pos h6,if_pos ⟨by rw [← hb];exact h4,h6⟩]
      · rw [if_neg h6,if_neg (fun h => h6 h.2)]
     have hbl:body.length < 500:=by rw [hb] at h4;simp at h4;omega
     obtain ⟨ls,hls⟩:∃ ls,ls = cutL 10 body:=⟨_,rfl⟩
     have HSp:Hid (Calls Tryz.prog 194 #[.string (mk body),.string ⟨#[10]⟩] w fun e w' => e = .returned (.slice (some ⟨w.heap.size,0,none⟩) ls.length ls.length) ∧ w' = w.alloc (.cells (ls.map fun l => Value.string (mk l)).toArray 9)):=by
      have:=split_any 10 (mk body) m w (by rw [size_mk];exact hbl) hm
      rw [data_mk,← hls] at this
      exact this
     have hl1:0 < ls.length:=by rw [hls];exact cutL_length 10 body
     have hlbig:ls.length < 600:=by have:=cut_count 10 body;rw [← hls] at this;omega
     have HSm:Hid (∀ p ∈ ls,p.length < 500):=fun p hp => by
      rw [hls] at hp
      have:=cut_small 10 body p hp;omega
     rw [← hls] at HSch
     have HM:Hid (w.cell? ⟨3,0,none⟩ = some (.int .i64 m)):=hm
     clear hm hls hb ht hs
     by_cases hfew:ls.length ≤ 6
     · have HSc:Hid (schemaL text = compsL [] ls):=by show _ = _;rw [HSch.out,if_pos hfew]
       clear HSch
       obtain ⟨i0,hi,hz0,hz1,hz2⟩:=info_parts Tryz.info138
       go_enter Tryz.func127,Tryz.ntmps127
       go_wp2_with (go_at_call 193;refine (need_of _ _ ?_).mono ?_;(first | rfl | (simp;omega));rintro e w' ⟨rfl,rfl⟩)
       refine Calls.mono HCut.out ?_
       rintro e w1 ⟨rfl,rfl⟩
       go_wp2_with (go_at_call 193;refine (need_of _ _ ?_).mono ?_;(first | rfl | (simp;omega));rintro e w' ⟨rfl,rfl⟩)
       refine Calls.mono HSp.out ?_
       rintro e w1 ⟨rfl,rfl⟩
       go_wp2_with (first | (go_at_call 193;refine (need_of _ _ ?_).mono ?_;(first | rfl | (simp;omega));rintro e w' ⟨rfl,rfl⟩) | (at_make;refine wpList_make_own _ rfl _ _ 103 rfl (w.heap.size + 1) 138 i0 (.agg #[.string ⟨#[]⟩,.slice none 0 0]) 2 Tryz.underlying103 hi hz0 hz1 .i64 .i64 _ ls.length rfl rfl rfl (by rw [hz2];omega) (by unfold maxLen;omega) (by simp) ?_;intro w0 hown0 hgrow0))
       have HB0:Hid (Below (w.heap.size + 1) (w.alloc (.cells (ls.map fun l => Value.string (mk l)).toArray 9)) w0):=⟨hgrow0.os,hgrow0.tape,hgrow0.output,hgrow0.size,fun j hj => hgrow0.block j (by simp;omega) (by simp)⟩
       have HO0:Hid (w0.ownsRow (w.heap.size + 1) 138 2 (.slice (some ⟨w.heap.size + 1,0,none⟩) 0 ls.length) 0 (compCells [])):=by rw [World.size_alloc] at hown0;exact hown0
       have HP:Hid (∀ k (h:k < ls.length),(w.alloc (.cells (ls.map fun l => Value.string (mk l)).toArray 9)).cell? ⟨w.heap.size,k,none⟩ = some (.string (mk ls[k]))):=fun k h => by
        rw [World.cell?_alloc_new];simp [h]
       have H0:Hid ((w.alloc (.cells (ls.map fun l => Value.string (mk l)).toArray 9)).cell? ⟨3,0,none⟩ = some (.int .i64 m)):=(World.cell?_alloc_lt _ _ _ h0).trans HM.out
       have HBS:Hid (Below w.heap.size w (w.alloc (.cells (ls.map fun l => Value.string (mk l)).toArray 9))):=(Below.refl _ _).alloc (Nat.le_refl _) _
       obtain ⟨wS,hwS⟩:∃ wS,wS = w.alloc (.cells (ls.map fun l => Value.string (mk l)).toArray 9):=⟨_,rfl⟩
       rw [← hwS] at HB0 HP H0 HBS
       have hsS:wS.heap.size = w.heap.size + 1:=by rw [hwS];simp
       have HsS:Hid (wS.heap.size = w.heap.size + 1):=hsS
       clear hown0 hgrow0 hsS hwS
       go_loopw [6,32] (fun v t wr => ∃ (k:Nat) (cs:List (ByteArray × (Option Addr × Nat × Nat))) (cl:List (List UInt8 × List (List UInt8 × Nat))),k ≤ ls.length ∧ t = .int .i64 k ∧ Hid (compsL [] (ls.take k) = some cl) ∧ Hid (cs.map Prod.fst = cl.map fun c => mk c.1) ∧ Hid (cs.length = k) ∧ Hid (RowsF wr (w.heap.size + 1) cs cl ∧ ∀ c ∈ cl,CompOk c) ∧ wr.ownsRow (w.heap.size + 1) 138 2 v k (compCells cs) ∧ Below (w.heap.size + 1) wS wr)
        (fun _ t _ => ls.length - (intOf t).toNat)
       case atStart => exact ⟨0,[],[],by omega,rfl,rfl,rfl,rfl,⟨fun j z c h => by simp at h,fun c h => by simp at h⟩,HO0.out,HB0.out⟩
       case round =>
        obtain ⟨k,cs,cl,hk,rfl,HCs,HNs,HCL,HRF,hown,hbw⟩:=hrel
        have HBW:Hid (Below (w.heap.size + 1) wS wr):=hbw
        have HO:Hid (wr.ownsRow (w.heap.size + 1) 138 2 u6 k (compCells cs)):=hown
        have hs0:w.heap.size + 1 ≤ wr.heap.size:=by have:=hbw.size;rw [HsS.out] at this;exact this
        by_cases hlt:k < ls.length
        · have hw:wr.cell? ⟨w.heap.size,k,none⟩ = some (.string (mk ls[k])):=(hbw.cell (p:=⟨w.heap.size,k,none⟩) (by simp)).trans (HP.out k hlt)
          have HFd:Hid _:=readComp_n ls[k] m wr (HSm.out _ (List.getElem_mem hlt)) ((hbw.cell (p:=⟨3,0,none⟩) (by simp;omega)).trans H0.out)
          have HWs:Hid (compsL [] ls = compsL cl (ls[k] :: ls.drop (k + 1))):=by
           show _ = _
           have e:ls = ls.take k ++ ls[k] :: ls.drop (k + 1):=by rw [← List.drop_eq_getElem_cons hlt,List.take_append_drop]
           conv => lhs;rw [e]
           rw [compsL_append,HCs.out];rfl
          have HTk:Hid (ls.take (k + 1) = ls.take k ++ [ls[k]]):=List.take_succ_eq_append_getElem hlt
          clear hbw hown
          generalize ls[k] = wd at hw HFd HWs HTk
          go_wp2_with fail
          refine Calls.mono HFd.out ?_
          rintro e w3 ⟨hends,hb3⟩
          have HB3:Hid (Below wr.heap.size wr w3):=hb3
          rcases hends with ⟨f,hf,fv,rfl,hfs⟩ | ⟨hf,rfl⟩
          · obtain ⟨sa,sc,rfl⟩:=own_form hfs
            have HR3:Hid (RowsF w3 (w.heap.size + 1) (cs ++ [(mk f.1,sa,f.2.length,sc)]) (cl ++ [f]) ∧ ∀ c ∈ cl ++ [f],CompOk c):=⟨RowsF.push (HRF.out.1.keepT fun i _ _ hi => hb3.block i (Array.getElem?_eq_some_iff.1 hi).1) (own_base hfs hs0) (by have:=congrArg List.length HNs.out;simpa using this),fun c hc => by rcases List.mem_append.1 hc with h | h;exact HRF.out.2 c h;simp at h;rw [h];exact compL_ok hf⟩
            clear hfs HRF
            obtain ⟨sn,hsn⟩:∃ sn,sn = f.2.length:=⟨_,rfl⟩
            rw [← hsn] at HR3 ⊢
            clear hsn
            have HO3:Hid (w3.ownsRow (w.heap.size + 1) 138 2 u6 k (compCells cs)):=HO.out.kept (grownBy_below hb3 none) (by cases u6.ownBlock <;> simp)
            have hs3:w.heap.size + 1 ≤ w3.heap.size:=Nat.le_trans hs0 hb3.size
            have HF:Hid (compL wd = some f):=hf
            clear hb3 hw hf
            have HFi:Hid _:=find99_any (mk f.1) u6 (w.heap.size + 1) cs (w3.alloc (.cells #[.string (mk f.1),.slice sa sn sc] 138)) (by rw [HCL.out];omega) (by rw [HCL.out];exact HO3.out.alloc _)
            go_wp2_with fail
            refine Calls.mono HFi.out ?_
            rintro e w5 ⟨⟨r,rfl,hr⟩,hb5⟩
            rw [mem_names HNs.out] at hr
            have b0:w5.cell? ⟨w3.heap.size,0,none⟩ = some (.string (mk f.1)):=by rw [hb5.cell (p:=⟨w3.heap.size,0,none⟩) (by simp)];simp
            have b1:w5.cell? ⟨w3.heap.size,1,none⟩ = some (.slice sa sn sc):=by rw [hb5.cell (p:=⟨w3.heap.size,1,none⟩) (by simp)];simp
            have HB5:Hid (Below w3.heap.size w3 w5):=((Below.refl _ _).alloc (Nat.le_refl _) _).trans (hb5.mono (by simp))
            have hs5:w.heap.size + 1 ≤ w5.heap.size:=Nat.le_trans hs3 HB5.out.size
            have HR5:Hid (RowsF w5 (w.heap.size + 1) (cs ++ [(mk f.1,sa,sn,sc)]) (cl ++ [f]) ∧ ∀ c ∈ cl ++ [f],CompOk c):=⟨HR3.out.1.keepT fun i _ _ hi => HB5.out.block i (Array.getElem?_eq_some_iff.1 hi).1,HR3.out.2⟩
            clear HR3
            have HB2:Hid (Below (w.heap.size + 1) wS w5):=(Below.trans HBW.out (Below.mono HB3.out (by omega))).trans (HB5.out.mono (by omega))
            by_cases hdup:f.1 ∈ cl.map Prod.fst
            · have hr0:¬ r < 0:=fun h => (hr.1 h) hdup
              have HCn:Hid (schemaL text = none):=HSc.out.trans (by rw [HWs.out,compsL,HF.out];simp only;rw [if_pos hdup])
              clear hdup hr hb5
              go_wp2_with (go_at_call 193;refine (need_no _ _ ?_).mono ?_;(first | rfl | (simp;omega));rintro e w' ⟨rfl,rfl⟩)
              exact ⟨rfl,Or.inr ⟨HCn.out,rfl⟩,HBS.out.trans (HB2.out.mono (by omega))⟩
            · have hr0:r < 0:=hr.2 hdup
              have HN1:Hid (compsL [] (ls.take (k + 1)) = some (cl ++ [f])):=by
               show _ = _
               rw [HTk.out,compsL_append,HCs.out]
               show compsL cl [wd] = _
               rw [compsL,HF.out];simp only;rw [if_neg hdup];rfl
              have hown5:w5.ownsRow (w.heap.size + 1) 138 2 u6 k (compCells cs):=HO3.out.kept (grownBy_below HB5.out none) (by cases u6.ownBlock <;> simp)
              clear hb5 hdup hr
              go_wp2_with (first | (go_at_call 193;refine (need_of _ _ ?_).mono ?_;(first | rfl | (simp;omega));rintro e w' ⟨rfl,rfl⟩) | (at_builtin;refine wpList_append_own _ rfl _ _ 103 rfl (w.heap.size + 1) 138 i0 (.agg #[.string ⟨#[]⟩,.slice none 0 0]) 2 40 Tryz.underlying103 hi hz0 hz1 hz2 rfl (by decide) _ _ _ rfl (hown5.alloc _) ⟨w5.heap.size,0,none⟩ 1 1 [.string (mk f.1),.slice sa sn sc] rfl rfl (cell_two_new _ _ _ _) (fun x hx => by simp at hx;rcases hx with rfl | rfl <;> rfl) (by unfold maxLen;omega) (by omega) (by simp;omega) ?_;intro v' w6 hown6 hgrow6 _;have HO6:Hid (w6.ownsRow (w.heap.size + 1) 138 2 v' (k + 1) (compCells cs ++ [.string (mk f.1),.slice sa sn sc])):=hown6;have HB6:Hid (Below (w.heap.size + 1) wS w6):=Below.grown (HB2.out.alloc (by omega) _) hgrow6 (by simp;omega) (fun j hj => (hown5.lt j hj).1);have HR6:Hid (RowsF w6 (w.heap.size + 1) (cs ++ [(mk f.1,sa,sn,sc)]) (cl ++ [f]) ∧ ∀ c ∈ cl ++ [f],CompOk c):=⟨HR5.out.1.grown hown5 hgrow6,HR5.out.2⟩;clear hown5 hown6 hgrow6))
              go_roundw
              case rel =>
               refine ⟨k + 1,cs ++ [(mk f.1,sa,sn,sc)],cl ++ [f],by omega,by go_num,HN1,?_,?_,HR6,?_,HB6.out⟩
               · show _ = _;rw [List.map_append,List.map_append,HNs.out];rfl
               · show _ = _;rw [List.length_append,HCL.out];rfl
               · have e:compCells (cs ++ [(mk f.1,sa,sn,sc)]) = compCells cs ++ [.string (mk f.1),.slice sa sn sc]:=by simp [compCells]
                 rw [e];exact HO6.out
              case measure => simp [intOf];omega
          · have HCn:Hid (schemaL text = none):=HSc.out.trans (by rw [HWs.out,compsL,hf])
            clear hf hb3
            go_wp2_with fail
            exact ⟨rfl,Or.inr ⟨HCn.out,rfl⟩,HBS.out.trans ((Below.trans HBW.out (HB3.out.mono (by omega))).mono (by omega))⟩
        · obtain ⟨sa,sc,rfl⟩:=own_form hown
          have hkl:k = ls.length:=by omega
          have HCn:Hid (schemaL text = some cl):=HSc.out.trans (by have:=HCs.out;rw [hkl,List.take_length] at this;exact this)
          have HLd:Hid (∃ g,sa = some ⟨g,0,none⟩ ∧ w.heap.size ≤ g ∧ cl.length ≤ sc ∧ k = cl.length ∧ LayN wr wr.heap.size g cl ∧ LoF wr w.heap.size g cl):=layN_own HO.out HCL.out HNs.out (by omega) (by omega) HRF.out.1 HRF.out.2
          clear hown hbw hkl
          go_wp2
          go_ret
          obtain ⟨g,rfl,q1,q2,rfl,q4,q5⟩:=HLd.out
          exact ⟨Or.inl ⟨_,HCn.out,g,sc,rfl,q1,q2,q4,q5⟩,HBS.out.trans (Below.mono HBW.out (by omega))⟩
     · have HSc:Hid (schemaL text = none):=by show _ = _;rw [HSch.out,if_neg hfew]
       clear HSch
       go_enter Tryz.func127,Tryz.ntmps127
       go_wp2_with (go_at_call 193;refine (need_of _ _ ?_).mono ?_;(first | rfl | (simp;omega));rintro e w' ⟨rfl,rfl⟩)
       refine Calls.mono HCut.out ?_
       rintro e w1 ⟨rfl,rfl⟩
       go_wp2_with (go_at_call 193;refine (need_of _ _ ?_).mono ?_;(first | rfl | (simp;omega));rintro e w' ⟨rfl,rfl⟩)
       refine Calls.mono HSp.out ?_
       rintro e w1 ⟨rfl,rfl⟩
       go_wp2_with (go_at_call 193;refine (need_no _ _ ?_).mono ?_;(first | rfl | (simp;omega));rintro e w' ⟨rfl,rfl⟩)
       exact ⟨rfl,Or.inr ⟨HSc.out,rfl⟩,(Below.refl _ _).alloc (Nat.le_refl _) _⟩
 · have HN:Hid (schemaL text = none):=by show _ = _;unfold schemaL;rw [if_neg (fun h => h4 h.1)]
   clear hm
   have h4':¬ ((mk text).size:Int) ≤ 400:=by omega
   have hbg:(mk text).size ≤ 1000000000:=by omega
   clear hts
   go_enter Tryz.func127,Tryz.ntmps127
   go_wp2_with (go_at_call 193;refine (need_no _ _ ?_).mono ?_;(first | rfl | (simp;omega));rintro e w' ⟨rfl,rfl⟩)
   exact ⟨rfl,Or.inr ⟨HN.out,rfl⟩,Below.refl _ _⟩
theorem catch_idle (p q:Value) (w:World) :
 CallsD Tryz.prog 126 #[p,q] .returning w fun e u' w' => e = .returned (.tuple #[]) ∧ u' = .returning ∧ w' = w:=by
 refine callsD_of_wpS Tryz.func126 rfl fun c₀ cs hu => ?_
 apply wpS_seq
 apply wpS_region
 simp [wpOpsS,go_sem,recoverD,hu,Tryz.ntmps126,Exit.thenS]
 apply wpS_seq
 refine wpS_of_wp ?_
 go_wp2
 simp only [Exit.thenS]
 refine wpS_cond (t:=false) (by simp [Act.eval]) ?_
 simp only [Bool.false_eq_true,if_false]
 refine wpS_of_wp (wp_skip ?_)
 cases c₀
 simp_all [bodyPostS,results,Tryz.results126]
set_option maxHeartbeats 800000 in
set_option maxRecDepth 20000 in
theorem catch_wrong (b1 b2:Nat) (v0:Option Addr) (n0 c0:Nat) (b0:Bool) (w:World) (hp:w.cell? ⟨b1,0,none⟩ = some (.slice v0 n0 c0)) (hq:w.cell? ⟨b2,0,none⟩ = some (.bool b0)) (fp:w.frozen? ⟨b1,0,none⟩ = false) (fq:w.frozen? ⟨b2,0,none⟩ = false) (hpq:b1 < b2) (hqs:b2 < w.heap.size) :
 CallsD Tryz.prog 126 #[.pointer (some ⟨b1,0,none⟩),.pointer (some ⟨b2,0,none⟩)] (.panicking wrong) w fun e u' w' => e = .returned (.tuple #[]) ∧ u' = .panicking [{ v:=.iface 197 (.agg #[]),recovered:=true }] ∧ w' = ((w.alloc (.cells #[] 197)).setCell ⟨b1,0,none⟩ (.slice none 0 0)).setCell ⟨b2,0,none⟩ (.bool false):=by
 unfold wrong
 have hta:∀ W:World,Sem.run Tryz.prog (Instr.typeAssert (.iface 197 (.agg #[])) 20 197 true) W = .ok (.tuple #[.agg #[],.bool true]) W:=fun _ => by kernel_rfl
 have hp2:(w.alloc (.cells #[] 197)).cell? ⟨b1,0,none⟩ = some (.slice v0 n0 c0):=(World.cell?_alloc_lt _ _ _ (by simp;omega)).trans hp
 have hq2:(w.alloc (.cells #[] 197)).cell? ⟨b2,0,none⟩ = some (.bool b0):=(World.cell?_alloc_lt _ _ _ hqs).trans hq
 have fp2:(w.alloc (.cells #[] 197)).frozen? ⟨b1,0,none⟩ = false:=(World.frozen?_of_block (a:=⟨b1,0,none⟩) (Below.heap_alloc w _ b1 (by omega))).trans fp
 have fq2:(w.alloc (.cells #[] 197)).frozen? ⟨b2,0,none⟩ = false:=(World.frozen?_of_block (a:=⟨b2,0,none⟩) (Below.heap_alloc w _ b2 (by omega))).trans fq
 have hne:¬ b1 = b2:=by omega
 have hne2:¬ b2 = b1:=by omega
 refine callsD_of_wpS Tryz.func126 rfl fun c₀ cs hu => ?_
 apply wpS_seq
 apply wpS_region
 simp [wpOpsS,go_sem,recoverD,hu,Tryz.ntmps126,Exit.thenS]
 apply wpS_seq
 refine wpS_of_wp ?_
 go_wp2
 simp only [Exit.thenS]
 refine wpS_cond (t:=true) (by simp [Act.eval]) ?_
 simp only [if_true]
 refine wpS_of_wp ?_
 go_wp2
 simp [bodyPostS,results,Tryz.results126]
end Go.Proofs.YthkbeaffkcfgiabGreatDoor
