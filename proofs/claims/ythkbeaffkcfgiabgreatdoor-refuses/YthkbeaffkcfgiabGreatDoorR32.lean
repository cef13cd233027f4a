import Derived.Test.YthkbeaffkcfgiabGreatDoorR31
import Derived.Test.YthkbeaffkcfgiabGreatDoorR01
import Derived.Test.YthkbeaffkcfgiabGreatDoorR13
import Derived.Test.YthkbeaffkcfgiabGreatDoorR27
set_option linter.unusedSimpArgs false
set_option linter.unusedVariables false
namespace Go.Proofs.YthkbeaffkcfgiabGreatDoor
open Go.RowKit
def compAt (L:List CompS) (nm:List UInt8):Int:=findN (L.map Prod.fst) nm
def fieldAt (L:List CompS) (k:Nat) (nm:List UInt8):Int:=findN (((L.map Prod.snd).getD k []).map Prod.fst) nm
set_option maxHeartbeats 1600000 in
theorem find102 (g lc b0:Nat) (L:List CompS) (nm:List UInt8) (w:World) (hL:LayN w b0 g L) :
 Calls Tryz.prog 102 #[.slice (some ⟨g,0,none⟩) L.length lc,.string (mk nm)] w fun e w' => e = .returned (.int .i64 (compAt L nm)) ∧ Below w.heap.size w w':=by
 have hlt:=hL.lt
 have hle:=hL.le
 have hA:Below w.heap.size w (w.alloc (.cells #[.string (mk nm)] 9)):=(Below.refl _ _).alloc (Nat.le_refl _) _
 have hex:∀ j,∃ s:Option Addr × Nat × Nat,∀ h:j < L.length,w.cell? ⟨g,j * 2 + 1,none⟩ = some (.slice s.1 s.2.1 s.2.2):=fun j => by
  by_cases h:j < L.length
  · obtain ⟨_,_,fs,h3,h4,_⟩:=hL.comp j h
    rcases h4 with ⟨rfl,_⟩ | ⟨g',c',rfl,_⟩
    · exact ⟨(none,0,0),fun _ => h3⟩
    · exact ⟨(some ⟨g',0,none⟩,_,c'),fun _ => h3⟩
  · exact ⟨(none,0,0),fun h' => absurd h' h⟩
 obtain ⟨sl,hsl⟩:=Classical.axiomOfChoice hex
 have key:=index152 g L.length lc (L.map Prod.fst) sl nm w.heap.size (w.alloc (.cells #[.string (mk nm)] 9)) (by simp) (by have:=hL.few;omega) (by simp;omega) (by simp) (by simp) (fun j h => by
  have hj:j < L.length:=by simpa using h
  refine ⟨(hA.cell (p:=⟨g,_,none⟩) (by show g < _;omega)).trans ?_,(hA.cell (p:=⟨g,_,none⟩) (by show g < _;omega)).trans (hsl j hj)⟩
  rw [(hL.comp j hj).2.1];simp)
 have HK:Hid _:=key
 clear key hsl hex hA
 generalize L.length = n at HK
 go_enter Tryz.func102,Tryz.ntmps102
 go_wp2_with fail
 refine Calls.mono HK.out ?_
 rintro e w1 ⟨rfl,hb⟩
 go_wp2
 go_ret
 exact ⟨rfl,((Below.refl _ _).alloc (Nat.le_refl _) _).trans (hb.mono (by simp))⟩
set_option maxHeartbeats 1600000 in
theorem find129 (cn:ByteArray) (fs:Value) (fl:List (List UInt8 × Nat)) (nm:List UInt8) (w:World) (hF:FieldsN w fs fl) (hl:fl.length ≤ 4) :
 Calls Tryz.prog 129 #[.agg #[.string cn,fs],.string (mk nm)] w fun e w' => e = .returned (.int .i64 (findN (fl.map Prod.fst) nm)) ∧ Below w.heap.size w w':=by
 rcases hF with ⟨rfl,rfl⟩ | ⟨g,c,rfl,h2,h3,h4⟩
 · have HK:Hid _:=index35_nil (.pointer (some ⟨w.heap.size + 1,0,none⟩)) ((w.alloc (.cells #[.string cn,.slice none 0 0] 138)).alloc (.cells #[.string (mk nm)] 9))
   go_enter Tryz.func129,Tryz.ntmps129
   go_wp2_with fail
   refine Calls.mono HK.out ?_
   rintro e w1 ⟨rfl,hb⟩
   go_wp2
   go_ret
   exact ⟨rfl,(below_two _ _ _).trans (hb.mono (by simp;omega))⟩
 · have key:=index197 g fl.length c (fl.map Prod.fst) (fun j => ((fl.getD j ([],0)).2:Int)) nm (w.heap.size + 1) ((w.alloc (.cells #[.string cn,.slice (some ⟨g,0,none⟩) fl.length c] 138)).alloc (.cells #[.string (mk nm)] 9)) (by simp) (by omega) (by simp;omega) (by simp) (by simp) (fun j h => by
    have hj:j < fl.length:=by simpa using h
    refine ⟨((below_two w _ _).cell (p:=⟨g,_,none⟩) h3).trans ?_,((below_two w _ _).cell (p:=⟨g,_,none⟩) h3).trans ?_⟩
    · rw [(h4 j hj).1];simp
    · rw [(h4 j hj).2];simp [List.getD,hj])
   have HK:Hid _:=key
   clear key h4
   generalize fl.length = n at HK
   go_enter Tryz.func129,Tryz.ntmps129
   go_wp2_with fail
   refine Calls.mono HK.out ?_
   rintro e w1 ⟨rfl,hb⟩
   go_wp2
   go_ret
   exact ⟨rfl,(below_two _ _ _).trans (hb.mono (by simp;omega))⟩
def aliveB (bg:Nat → Nat) (tk:Nat → Bool) (p l:Int):Bool:=decide (1 ≤ p) && decide (p ≤ 20) && tk (p - 1).toNat && ((bg (p - 1).toNat:Int) == l)
set_option maxHeartbeats 1600000 in
theorem alive_all (b:Nat) (p l:Int) (bg:Nat → Nat) (tk:Nat → Bool) (cp:Nat → Nat) (w:World) (hp:PlacesAt w b bg tk cp) :
 Calls Tryz.prog 28 #[.pointer (some ⟨b,0,none⟩),.agg #[.int .i64 p,.int .i64 l]] w fun e w' => e = .returned (.bool (aliveB bg tk p l)) ∧ Below w.heap.size w w':=by
 by_cases h1:p < 1
 · have e:aliveB bg tk p l = false:=by simp [aliveB];intro h;omega
   rw [e]
   have hd:decide (p < 1) = true:=decide_eq_true h1
   clear hp
   go_enter Tryz.func28,Tryz.ntmps28
   go_wp2
   go_ret
   exact ⟨rfl,(Below.refl _ _).alloc (Nat.le_refl _) _⟩
 · by_cases h2:20 < p
   · have e:aliveB bg tk p l = false:=by simp [aliveB];intro _ h;omega
     rw [e]
     have hd:decide (p < 1) = false:=decide_eq_false h1
     have hd2:decide (20 < p) = true:=decide_eq_true h2
     clear hp
     go_enter Tryz.func28,Tryz.ntmps28
     go_wp2
     go_ret
     exact ⟨rfl,(Below.refl _ _).alloc (Nat.le_refl _) _⟩
   · obtain ⟨i,rfl⟩:∃ i:Nat,p = (i:Int) + 1:=⟨(p - 1).toNat,by omega⟩
     have e:aliveB bg tk ((i:Int) + 1) l = (tk i && ((bg i:Int) == l)):=by
      have e1:((i:Int) + 1 - 1).toNat = i:=by omega
      unfold aliveB
      rw [e1,decide_eq_true (show (1:Int) ≤ (i:Int) + 1 by omega),decide_eq_true (show (i:Int) + 1 ≤ 20 by omega)]
      simp
     rw [e]
     exact alive_at b i l bg tk cp w (by omega) hp
def fitsB (kd k n:Int) (sl ll:Nat):Bool:=decide (k = kd) && (if k = 2 then n == 0 || n == 1 else if k = 3 then decide (sl ≤ 12) else if k = 5 then decide (ll ≤ 4) else true)
set_option maxHeartbeats 3200000 in
theorem fits_any (nm:ByteArray) (kd k n p l:Int) (s:ByteArray) (a:Option Addr) (ll lc:Nat) (w:World) :
 Calls Tryz.prog 72 #[.agg #[.string nm,.int .i64 kd],.agg #[.int .i64 k,.int .i64 n,.string s,.int .i64 p,.int .i64 l,.slice a ll lc]] w fun e w' => e = .returned (.bool (fitsB kd k n s.size ll)) ∧ Below w.heap.size w w':=by
 by_cases h0:k = kd
 · subst h0
   by_cases h2:k = 2
   · subst h2
     by_cases n0:n = 0
     · subst n0
       go_enter Tryz.func72,Tryz.ntmps72
       go_wp2
       go_ret
       exact ⟨rfl,below_two _ _ _⟩
     · have hd0:(n == 0) = false:=by simpa using n0
       go_enter Tryz.func72,Tryz.ntmps72
       go_wp2
       go_ret
       exact ⟨by simp [fitsB,hd0],below_two _ _ _⟩
   · have e2:(k == 2) = false:=by simpa using h2
     by_cases h3:k = 3
     · subst h3
       go_enter Tryz.func72,Tryz.ntmps72
       go_wp2
       go_ret
       exact ⟨by simp [fitsB];omega,below_two _ _ _⟩
     · have e3:(k == 3) = false:=by simpa using h3
       by_cases h5:k = 5
       · subst h5
         go_enter Tryz.func72,Tryz.ntmps72
         go_wp2
         go_ret
         exact ⟨by simp [fitsB];omega,below_two _ _ _⟩
       · have e5:(k == 5) = false:=by simpa using h5
         go_enter Tryz.func72,Tryz.ntmps72
         go_wp2
         go_ret
         exact ⟨by simp [fitsB,h2,h3,h5],below_two _ _ _⟩
 · have e0:(k == kd) = false:=by simpa using h0
   go_enter Tryz.func72,Tryz.ntmps72
   go_wp2
   go_ret
   exact ⟨by simp [fitsB,h0],below_two _ _ _⟩
def findCompP (L:List CompS) (S:St) (p l:Int) (nm:List UInt8):Int × Int:=if aliveB S.bg S.tk p l then (if compAt L nm < 0 then (0,4) else (compAt L nm,0)) else (0,3)
def findOwnP (L:List CompS) (S:St) (p l:Int) (nm:List UInt8):Int × Int:=if (findCompP L S p l nm).2 = 0 ∧ (S.cp (p - 1).toNat).testBit (findCompP L S p l nm).1.toNat = false then (0,6) else findCompP L S p l nm
def findFieldP (L:List CompS) (S:St) (p l:Int) (nm fn:List UInt8):Int × Int × Int :=
 if (findOwnP L S p l nm).2 = 0 then (if fieldAt L (findOwnP L S p l nm).1.toNat fn < 0 then (0,0,7) else ((findOwnP L S p l nm).1,fieldAt L (findOwnP L S p l nm).1.toNat fn,0)) else (0,0,(findOwnP L S p l nm).2)
theorem findN_lt:∀ (ns:List (List UInt8)) (nm:List UInt8),findN ns nm < ns.length
 | [],_ => by simp [findN]
 | a :: l,nm => by
   have:=findN_lt l nm
   have:=findN_ge l nm
   unfold findN
   simp only [List.length_cons]
   split
   · omega
   · split <;> omega
theorem compAt_lt (L:List CompS) (nm:List UInt8):compAt L nm < L.length:=by have:=findN_lt (L.map Prod.fst) nm;simpa [compAt] using this
theorem alive_wt {own:Nat → Nat} {b g lc N:Nat} {L:List CompS} {S:St} {w:World} (hW:WT w own b g lc N L S) (p l:Int) (V:World) (hb:Below w.heap.size w V) :
 Calls Tryz.prog 28 #[.pointer (some ⟨b,0,none⟩),.agg #[.int .i64 p,.int .i64 l]] V fun e w' => e = .returned (.bool (aliveB S.bg S.tk p l)) ∧ Below w.heap.size w w' :=
 (alive_all b p l S.bg S.tk S.cp V (hW.below hb).places).mono fun _ _ ⟨h1,h2⟩ => ⟨h1,hb.trans (h2.mono hb.size)⟩
set_option maxHeartbeats 3200000 in
theorem findComp_wt {own:Nat → Nat} {b g lc N:Nat} {L:List CompS} {S:St} {w:World} (hW:WT w own b g lc N L S) (p l:Int) (nm:List UInt8) :
 Calls Tryz.prog 65 #[.pointer (some ⟨b,0,none⟩),.agg #[.int .i64 p,.int .i64 l],.string (mk nm)] w fun e w' => e = .returned (.tuple #[.int .i64 (findCompP L S p l nm).1,.int .i64 (findCompP L S p l nm).2]) ∧ Below w.heap.size w w':=by
 have HA:Hid (∀ V,Below w.heap.size w V → Calls Tryz.prog 28 #[.pointer (some ⟨b,0,none⟩),.agg #[.int .i64 p,.int .i64 l]] V fun e w' => e = .returned (.bool (aliveB S.bg S.tk p l)) ∧ Below w.heap.size w w'):=fun V hV => alive_wt hW p l V hV
 have HF:Hid (∀ V,Below w.heap.size w V → Calls Tryz.prog 102 #[.slice (some ⟨g,0,none⟩) L.length lc,.string (mk nm)] V fun e w' => e = .returned (.int .i64 (compAt L nm)) ∧ Below w.heap.size w w'):=fun V hV =>
  (find102 g lc b L nm V (hW.below hV).lay).mono fun _ _ ⟨h1,h2⟩ => ⟨h1,hV.trans (h2.mono hV.size)⟩
 have HC:Hid (∀ V,Below w.heap.size w V → V.cell? ⟨b,0,none⟩ = some (.slice (some ⟨g,0,none⟩) L.length lc)):=fun V hV => (hW.below hV).c0
 have HP:Hid (findCompP L S p l nm = if aliveB S.bg S.tk p l then (if compAt L nm < 0 then (0,4) else (compAt L nm,0)) else (0,3)):=rfl
 generalize findCompP L S p l nm = r at HP ⊢
 generalize compAt L nm = k at HF HP
 generalize L.length = n at HF HC
 clear hW
 cases hal:aliveB S.bg S.tk p l with
 | false =>
   rw [hal] at HA HP
   go_enter Tryz.func65,Tryz.ntmps65
   go_wp2_with (go_at_call 28;refine (HA.out _ ((Below.refl _ _).alloc (Nat.le_refl _) _)).mono ?_;rintro e w1 ⟨rfl,hb1⟩)
   go_ret2
   rw [HP.out]
   exact ⟨rfl,hb1⟩
 | true =>
   rw [hal] at HA HP
   by_cases hk:k < 0
   · have hd:decide (k < 0) = true:=decide_eq_true hk
     rw [if_pos rfl,if_pos hk] at HP
     go_enter Tryz.func65,Tryz.ntmps65
     go_wp2_with (first | (go_at_call 28;refine (HA.out _ ((Below.refl _ _).alloc (Nat.le_refl _) _)).mono ?_;rintro e w1 ⟨rfl,hb1⟩;have c0:=HC.out w1 hb1) | (go_at_call 102;refine (HF.out _ hb1).mono ?_;rintro e w2 ⟨rfl,hb2⟩))
     go_ret2
     rw [HP.out]
     exact ⟨rfl,hb2⟩
   · have hd:decide (k < 0) = false:=decide_eq_false hk
     rw [if_pos rfl,if_neg hk] at HP
     go_enter Tryz.func65,Tryz.ntmps65
     go_wp2_with (first | (go_at_call 28;refine (HA.out _ ((Below.refl _ _).alloc (Nat.le_refl _) _)).mono ?_;rintro e w1 ⟨rfl,hb1⟩;have c0:=HC.out w1 hb1) | (go_at_call 102;refine (HF.out _ hb1).mono ?_;rintro e w2 ⟨rfl,hb2⟩))
     go_ret2
     rw [HP.out]
     exact ⟨rfl,hb2⟩
theorem findCompP_ok {L:List CompS} {S:St} {p l:Int} {nm:List UInt8} (h:(findCompP L S p l nm).2 = 0):aliveB S.bg S.tk p l = true ∧ (findCompP L S p l nm).1 = compAt L nm ∧ 0 ≤ compAt L nm:=by
 unfold findCompP at h ⊢
 split
 · rename_i ha
   rw [if_pos ha] at h
   split
   · rename_i hk
     rw [if_pos hk] at h
     cases h
   · exact ⟨ha,rfl,by omega⟩
 · rename_i ha
   rw [if_neg ha] at h
   cases h
theorem alive_place {bg:Nat → Nat} {tk:Nat → Bool} {p l:Int} (h:aliveB bg tk p l = true):∃ i:Nat,i < 20 ∧ p = (i:Int) + 1 ∧ (p - 1).toNat = i ∧ tk i = true ∧ (bg i:Int) = l:=by
 unfold aliveB at h
 simp only [Bool.and_eq_true,decide_eq_true_eq,beq_iff_eq] at h
 exact ⟨(p - 1).toNat,by omega,by omega,rfl,h.1.2,h.2⟩
set_option maxHeartbeats 3200000 in
theorem findOwn_wt {own:Nat → Nat} {b g lc N:Nat} {L:List CompS} {S:St} {w:World} (hW:WT w own b g lc N L S) (p l:Int) (nm:List UInt8) :
 Calls Tryz.prog 69 #[.pointer (some ⟨b,0,none⟩),.agg #[.int .i64 p,.int .i64 l],.string (mk nm)] w fun e w' => e = .returned (.tuple #[.int .i64 (findOwnP L S p l nm).1,.int .i64 (findOwnP L S p l nm).2]) ∧ Below w.heap.size w w':=by
 have HK:Hid (Calls Tryz.prog 65 #[.pointer (some ⟨b,0,none⟩),.agg #[.int .i64 p,.int .i64 l],.string (mk nm)] (w.alloc (.cells #[.int .i64 p,.int .i64 l] 46)) fun e w' => e = .returned (.tuple #[.int .i64 (findCompP L S p l nm).1,.int .i64 (findCompP L S p l nm).2]) ∧ Below (w.heap.size + 1) (w.alloc (.cells #[.int .i64 p,.int .i64 l] 46)) w'):=by
  have hA:Below w.heap.size w (w.alloc (.cells #[.int .i64 p,.int .i64 l] 46)):=(Below.refl _ _).alloc (Nat.le_refl _) _
  refine (findComp_wt (hW.below hA) p l nm).mono fun e w' ⟨h1,h2⟩ => ⟨h1,?_⟩
  simpa using h2
 have hA:Below w.heap.size w (w.alloc (.cells #[.int .i64 p,.int .i64 l] 46)):=(Below.refl _ _).alloc (Nat.le_refl _) _
 by_cases he:(findCompP L S p l nm).2 = 0
 · obtain ⟨hal,h1,h2⟩:=findCompP_ok he
   obtain ⟨i,hi,hp,hpi,hti,hbi⟩:=alive_place hal
   have hk6:compAt L nm < 6:=by have:=compAt_lt L nm;have:=hW.lay.few;omega
   obtain ⟨k,hk⟩:∃ k:Nat,compAt L nm = (k:Int):=⟨(compAt L nm).toNat,by omega⟩
   have hks:k < 6:=by omega
   have hc6:=hW.cps i hi hti
   have HO:Hid (findOwnP L S p l nm = if (S.cp i).testBit k = false then (0,6) else ((k:Int),0)):=by
    show findOwnP L S p l nm = _
    unfold findOwnP
    rw [hpi,h1,hk,he]
    have e2:(findCompP L S p l nm) = ((k:Int),(0:Int)):=Prod.ext (h1.trans hk) he
    rw [e2]
    simp
   have HPl:Hid (∀ V,Below w.heap.size w V → V.cell? ⟨b,1 + i * 3 + 2,none⟩ = some (.int .u64 (S.cp i:Int))):=fun V hV => ((hW.below hV).places.2 i hi).2.2.1
   rw [h1,hk,he] at HK
   generalize findOwnP L S p l nm = r at HO ⊢
   subst hp
   have hlt:=hW.lt
   clear hW hbi hti hal h1 h2 he hpi
   cases hq:(S.cp i).testBit k with
   | false =>
     rw [hq,if_pos rfl] at HO
     generalize S.cp i = s at HPl hc6 hq
     go_enter Tryz.func69,Tryz.ntmps69
     go_wp2_with (first
      | (go_at_call 65;refine HK.out.mono ?_;rintro e w1 ⟨rfl,hb1⟩;have hs1:w.heap.size < w1.heap.size:=(by have:=hb1.size;simp at this;omega);have d0:w1.cell? ⟨w.heap.size,0,none⟩ = some (.int .i64 ((i:Int) + 1)):=(hb1.cell (p:=⟨w.heap.size,0,none⟩) (by simp)).trans (by simp);have d1:w1.cell? ⟨w.heap.size,1,none⟩ = some (.int .i64 l):=(hb1.cell (p:=⟨w.heap.size,1,none⟩) (by simp)).trans (by simp))
      | (go_at_call 59;refine (placeOf_any b i _ _ hi).mono ?_;rintro e w2 ⟨rfl,hb2⟩;have hB2:Below w.heap.size w w2:=(hA.trans (hb1.mono (by omega))).trans (hb2.mono (by omega));have cp:=HPl.out w2 hB2)
      | (go_at_call 66;refine (has_any s k _ hc6 hks).mono ?_;rw [hq];rintro e w3 ⟨rfl,rfl⟩))
     go_ret2
     rw [HO.out]
     exact ⟨rfl,hB2⟩
   | true =>
     rw [hq] at HO
     generalize S.cp i = s at HPl hc6 hq
     go_enter Tryz.func69,Tryz.ntmps69
     go_wp2_with (first
      | (go_at_call 65;refine HK.out.mono ?_;rintro e w1 ⟨rfl,hb1⟩;have hs1:w.heap.size < w1.heap.size:=(by have:=hb1.size;simp at this;omega);have d0:w1.cell? ⟨w.heap.size,0,none⟩ = some (.int .i64 ((i:Int) + 1)):=(hb1.cell (p:=⟨w.heap.size,0,none⟩) (by simp)).trans (by simp);have d1:w1.cell? ⟨w.heap.size,1,none⟩ = some (.int .i64 l):=(hb1.cell (p:=⟨w.heap.size,1,none⟩) (by simp)).trans (by simp))
      | (go_at_call 59;refine (placeOf_any b i _ _ hi).mono ?_;rintro e w2 ⟨rfl,hb2⟩;have hB2:Below w.heap.size w w2:=(hA.trans (hb1.mono (by omega))).trans (hb2.mono (by omega));have cp:=HPl.out w2 hB2)
      | (go_at_call 66;refine (has_any s k _ hc6 hks).mono ?_;rw [hq];rintro e w3 ⟨rfl,rfl⟩))
     go_ret2
     rw [HO.out]
     exact ⟨rfl,hB2⟩
 · have HO:Hid (findOwnP L S p l nm = findCompP L S p l nm):=if_neg (fun h => he h.1)
   generalize findOwnP L S p l nm = r at HO ⊢
   have hd:((findCompP L S p l nm).2 == 0) = false:=by simpa using he
   generalize findCompP L S p l nm = q at HO HK hd
   clear hW he
   go_enter Tryz.func69,Tryz.ntmps69
   go_wp2_with (go_at_call 65;refine HK.out.mono ?_;rintro e w1 ⟨rfl,hb1⟩)
   go_ret2
   rw [HO.out]
   exact ⟨rfl,hA.trans (hb1.mono (by omega))⟩
theorem findOwnP_ok {L:List CompS} {S:St} {p l:Int} {nm:List UInt8} (h:(findOwnP L S p l nm).2 = 0):∃ i k:Nat,i < 20 ∧ p = (i:Int) + 1 ∧ (p - 1).toNat = i ∧ S.tk i = true ∧ (S.bg i:Int) = l ∧ k < L.length ∧ (findOwnP L S p l nm).1 = (k:Int) ∧ compAt L nm = (k:Int) ∧ (S.cp i).testBit k = true:=by
 unfold findOwnP at h ⊢
 split
 · rename_i hq
   rw [if_pos hq] at h
   cases h
 · rename_i hq
   rw [if_neg hq] at h
   obtain ⟨h1,h2,h3⟩:=findCompP_ok h
   obtain ⟨i,hi,hp,hpi,hti,hbi⟩:=alive_place h1
   have hlt:=compAt_lt L nm
   refine ⟨i,(compAt L nm).toNat,hi,hp,hpi,hti,hbi,by omega,by rw [h2];omega,by omega,?_⟩
   rw [h2,hpi] at hq
   cases ht:(S.cp i).testBit (compAt L nm).toNat with
   | false => exact absurd ⟨h,ht⟩ hq
   | true => rfl
set_option maxHeartbeats 400000 in
set_option maxRecDepth 100000 in
theorem findField_wt {own:Nat → Nat} {b g lc N:Nat} {L:List CompS} {S:St} {w:World} (hW:WT w own b g lc N L S) (p l:Int) (nm fn:List UInt8) :
 Calls Tryz.prog 71 #[.pointer (some ⟨b,0,none⟩),.agg #[.int .i64 p,.int .i64 l],.string (mk nm),.string (mk fn)] w fun e w' => e = .returned (.tuple #[.int .i64 (findFieldP L S p l nm fn).1,.int .i64 (findFieldP L S p l nm fn).2.1,.int .i64 (findFieldP L S p l nm fn).2.2]) ∧ Below w.heap.size w w':=by
 have hA:Below w.heap.size w (w.alloc (.cells #[.int .i64 p,.int .i64 l] 46)):=(Below.refl _ _).alloc (Nat.le_refl _) _
 have HK:Hid (Calls Tryz.prog 69 #[.pointer (some ⟨b,0,none⟩),.agg #[.int .i64 p,.int .i64 l],.string (mk nm)] (w.alloc (.cells #[.int .i64 p,.int .i64 l] 46)) fun e w' => e = .returned (.tuple #[.int .i64 (findOwnP L S p l nm).1,.int .i64 (findOwnP L S p l nm).2]) ∧ Below w.heap.size w w') :=
  (findOwn_wt (hW.below hA) p l nm).mono fun e w' ⟨h1,h2⟩ => ⟨h1,hA.trans (h2.mono hA.size)⟩
 by_cases he:(findOwnP L S p l nm).2 = 0
 · obtain ⟨i,k,hi,hp,hpi,hti,hbi,hk,h1,h2,hbit⟩:=findOwnP_ok he
   have HO:Hid (findFieldP L S p l nm fn = if fieldAt L k fn < 0 then (0,0,7) else ((k:Int),fieldAt L k fn,0)):=by
    show findFieldP L S p l nm fn = _
    unfold findFieldP
    rw [if_pos he,h1]
    simp
   rw [h1,he] at HK
   have hn6:=hW.lay.few
   obtain ⟨ok,q1,fs,q2,q3,q4⟩:=hW.lay.comp k hk
   have hg:=hW.lay.lt
   have hgs:=hW.lay.le
   have hlcle:=hW.lcle
   have e1:(L.map Prod.snd).getD k [] = L[k].2:=by simp [List.getD,hk]
   have HV:Hid (∀ V,Below w.heap.size w V → V.cell? ⟨b,0,none⟩ = some (.slice (some ⟨g,0,none⟩) L.length lc) ∧ V.cell? ⟨g,k * 2,none⟩ = some (.string (mk L[k].1)) ∧ V.cell? ⟨g,k * 2 + 1,none⟩ = some fs):=fun V hV => ⟨(hW.below hV).c0,(hV.cell (p:=⟨g,_,none⟩) (by show g < _;omega)).trans q1,(hV.cell (p:=⟨g,_,none⟩) (by show g < _;omega)).trans q2⟩
   have HF:Hid (∀ V,Below w.heap.size w V → Calls Tryz.prog 129 #[.agg #[.string (mk L[k].1),fs],.string (mk fn)] V fun e w' => e = .returned (.int .i64 (fieldAt L k fn)) ∧ Below w.heap.size w w'):=fun V hV => by
    have:=find129 (mk L[k].1) fs L[k].2 fn V (q3.keep hV.size fun j _ hj => hV.block j hj) ok.2.1
    unfold fieldAt
    rw [e1]
    exact this.mono fun _ _ ⟨h1,h2⟩ => ⟨h1,hV.trans (h2.mono hV.size)⟩
   obtain ⟨fa,fnn,fc,hfs⟩:∃ a n c,fs = .slice a n c:=by obtain ⟨a,c,h⟩:=q3.form;exact ⟨a,_,c,h⟩
   subst hfs
   generalize findFieldP L S p l nm fn = r at HO ⊢
   generalize fieldAt L k fn = f at HO HF
   clear hW hbi hti he hpi h1 h2 q1 q2 q3 q4 ok hbit e1
   subst hp
   generalize mk L[k].1 = cn at HV HF
   generalize L.length = n at HV hk hn6 hlcle
   by_cases hf:f < 0
   · have hd:decide (f < 0) = true:=decide_eq_true hf
     rw [if_pos hf] at HO
     go_enter Tryz.func71,Tryz.ntmps71
     go_wp2_with (first
      | (go_at_call 69;refine HK.out.mono ?_;rintro e w1 ⟨rfl,hb1⟩;obtain ⟨c0,c1,c2⟩:=HV.out w1 hb1)
      | (go_at_call 129;refine (HF.out _ hb1).mono ?_;rintro e w2 ⟨rfl,hb2⟩))
     go_ret3
     rw [HO.out]
     exact ⟨rfl,hb2⟩
   · have hd:decide (f < 0) = false:=decide_eq_false hf
     rw [if_neg hf] at HO
     go_enter Tryz.func71,Tryz.ntmps71
     go_wp2_with (first
      | (go_at_call 69;refine HK.out.mono ?_;rintro e w1 ⟨rfl,hb1⟩;obtain ⟨c0,c1,c2⟩:=HV.out w1 hb1)
      | (go_at_call 129;refine (HF.out _ hb1).mono ?_;rintro e w2 ⟨rfl,hb2⟩))
     go_ret3
     rw [HO.out]
     exact ⟨rfl,hb2⟩
 · have HO:Hid (findFieldP L S p l nm fn = (0,0,(findOwnP L S p l nm).2)):=if_neg he
   generalize findFieldP L S p l nm fn = r at HO ⊢
   have hd:((findOwnP L S p l nm).2 == 0) = false:=by simpa using he
   generalize findOwnP L S p l nm = q at HO HK hd
   clear hW he hA
   go_enter Tryz.func71,Tryz.ntmps71
   go_wp2_with (go_at_call 69;refine HK.out.mono ?_;rintro e w1 ⟨rfl,hb1⟩)
   go_ret3
   rw [HO.out]
   exact ⟨rfl,hb1⟩
def danglesP (S:St) (k p l:Int):Bool:=k == 4 && (!(p == 0 && l == 0) && !aliveB S.bg S.tk p l)
set_option maxHeartbeats 400000 in
set_option maxRecDepth 100000 in
theorem dangles_wt {own:Nat → Nat} {b g lc N:Nat} {L:List CompS} {S:St} {w:World} (hW:WT w own b g lc N L S) (k n p l:Int) (s:ByteArray) (a:Option Addr) (ll cc:Nat) :
 Calls Tryz.prog 73 #[.pointer (some ⟨b,0,none⟩),.agg #[.int .i64 k,.int .i64 n,.string s,.int .i64 p,.int .i64 l,.slice a ll cc]] w fun e w' => e = .returned (.bool (danglesP S k p l)) ∧ Below w.heap.size w w':=by
 have HA:Hid (∀ V,Below w.heap.size w V → Calls Tryz.prog 28 #[.pointer (some ⟨b,0,none⟩),.agg #[.int .i64 p,.int .i64 l]] V fun e w' => e = .returned (.bool (aliveB S.bg S.tk p l)) ∧ Below w.heap.size w w'):=fun V hV => alive_wt hW p l V hV
 have HP:Hid (danglesP S k p l = (k == 4 && (!(p == 0 && l == 0) && !aliveB S.bg S.tk p l))):=rfl
 generalize danglesP S k p l = r at HP ⊢
 generalize aliveB S.bg S.tk p l = al at HA HP
 clear hW
 by_cases h4:k = 4
 · subst h4
   have hA:Below w.heap.size w (w.alloc (.cells #[.int .i64 4,.int .i64 n,.string s,.int .i64 p,.int .i64 l,.slice a ll cc] 56)):=(Below.refl _ _).alloc (Nat.le_refl _) _
   by_cases hp0:p = 0
   · subst hp0
     by_cases hl0:l = 0
     · subst hl0
       go_enter Tryz.func73,Tryz.ntmps73
       go_wp2
       go_ret
       rw [HP.out]
       exact ⟨rfl,hA⟩
     · have HQ:Hid (((0:Int) == 0 && l == 0) = false):=by show _ = _;simpa using hl0
       go_enter Tryz.func73,Tryz.ntmps73
       go_wp2_with (go_at_call 28;refine (HA.out _ hA).mono ?_;rintro e w1 ⟨rfl,hb1⟩)
       go_ret
       rw [HP.out,HQ.out]
       exact ⟨by simp,hb1⟩
   · have HQ:Hid ((p == 0 && l == 0) = false):=by show _ = _;simp [hp0]
     go_enter Tryz.func73,Tryz.ntmps73
     go_wp2_with (go_at_call 28;refine (HA.out _ hA).mono ?_;rintro e w1 ⟨rfl,hb1⟩)
     go_ret
     rw [HP.out,HQ.out]
     exact ⟨by simp,hb1⟩
 · have e4:(k == 4) = false:=by simpa using h4
   go_enter Tryz.func73,Tryz.ntmps73
   go_wp2
   go_ret
   rw [HP.out,e4]
   exact ⟨rfl,(Below.refl _ _).alloc (Nat.le_refl _) _⟩
end Go.Proofs.YthkbeaffkcfgiabGreatDoor
