import Derived.Lib.ItoaLen
import Derived.Lib.AppendStr
import Derived.Lib.SmallJoins
import Derived.Test.YthkbeaffkcfgiabGreatDoorR08
import Derived.Test.YthkbeaffkcfgiabGreatDoorR17
import Derived.Test.YthkbeaffkcfgiabGreatDoorR30
set_option linter.unusedSimpArgs false
set_option linter.unusedVariables false
namespace Go.Proofs.YthkbeaffkcfgiabGreatDoor
open Go.RowKit
def findN:List (List UInt8) → List UInt8 → Int
 | [],_ => -1
 | a :: l,nm => if a = nm then 0 else if findN l nm < 0 then -1 else findN l nm + 1
theorem findN_ge:∀ (ns:List (List UInt8)) (nm:List UInt8),-1 ≤ findN ns nm
 | [],_ => by simp [findN]
 | a :: l,nm => by
  have:=findN_ge l nm
  unfold findN
  split
  · omega
  · split <;> omega
theorem findN_at:∀ (ns:List (List UInt8)) (nm:List UInt8) (k:Nat) (h:k < ns.length),(∀ j (h:j < ns.length),j < k → ns[j] ≠ nm) → ns[k] = nm → findN ns nm = k
 | [],_,k,h,_,_ => by simp at h
 | a :: l,nm,0,_,_,he => by
  unfold findN
  rw [if_pos (by simpa using he)];rfl
 | a :: l,nm,k + 1,h,ha,he => by
  have ih:=findN_at l nm k (by simpa using h) (fun j hj hk => by have:=ha (j + 1) (by simpa using hj) (by omega);simpa using this) (by simpa using he)
  have h0:a ≠ nm:=by have:=ha 0 (by simp) (by omega);simpa using this
  unfold findN
  rw [if_neg h0,ih,if_neg (by omega)]
  simp
theorem findN_no:∀ (ns:List (List UInt8)) (nm:List UInt8),(∀ j (h:j < ns.length),ns[j] ≠ nm) → findN ns nm = -1
 | [],_,_ => rfl
 | a :: l,nm,ha => by
  have ih:=findN_no l nm (fun j hj => by have:=ha (j + 1) (by simpa using hj);simpa using this)
  have h0:a ≠ nm:=by have:=ha 0 (by simp);simpa using this
  unfold findN
  rw [if_neg h0,ih]
  rfl
theorem mk_ne {a b:List UInt8} (h:a ≠ b):((mk a).toList == (mk b).toList) = false:=by rw [toList_mk,toList_mk,beq_eq_false_iff_ne];exact h
theorem mk_eq {a b:List UInt8} (h:a = b):((mk a).toList == (mk b).toList) = true:=by rw [h];simp
set_option maxHeartbeats 1600000 in
theorem index152 (b n c:Nat) (ns:List (List UInt8)) (sl:Nat → Option Addr × Nat × Nat) (nm:List UInt8) (B:Nat) (w:World) (hn:n = ns.length) (hn2:n ≤ 10) (hb:b < w.heap.size) (hB:B < w.heap.size) (hc:w.cell? ⟨B,0,none⟩ = some (.string (mk nm)))
 (hz:∀ j (h:j < ns.length),w.cell? ⟨b,j * 2,none⟩ = some (.string (mk ns[j])) ∧ w.cell? ⟨b,j * 2 + 1,none⟩ = some (.slice (sl j).1 (sl j).2.1 (sl j).2.2)) :
 Calls Tryz.prog 152 #[.slice (some ⟨b,0,none⟩) n c,.func (.func 153) #[] #[.pointer (some ⟨B,0,none⟩)]] w fun e w' => e = .returned (.int .i64 (findN ns nm)) ∧ Below w.heap.size w w':=by
 have HZ:Hid _:=hz
 have HC:Hid (w.cell? ⟨B,0,none⟩ = some (.string (mk nm))):=hc
 have HL:Hid (n = ns.length):=hn
 clear hz hc hn
 go_enter Tryz.func152,Tryz.ntmps152
 go_wp2
 go_loopw [8] (fun t wr => ∃ k:Nat,k ≤ n ∧ t = .int .i64 k ∧ Below w.heap.size w wr ∧ Hid (∀ j (h:j < ns.length),j < k → ns[j] ≠ nm)) (fun t _ => n - (intOf t).toNat)
 case atStart => exact ⟨0,by omega,rfl,Below.refl _ _,fun j _ h => by omega⟩
 case round =>
  obtain ⟨k,hk,rfl,hw,HA⟩:=hrel
  have HW:Hid (Below w.heap.size w wr):=hw
  clear hw
  by_cases hlt:k < n
  · have hkz:k < ns.length:=by rw [← HL.out];exact hlt
    have c0:wr.cell? ⟨b,k * 2,none⟩ = some (.string (mk ns[k])):=(HW.out.cell (p:=⟨b,_,none⟩) hb).trans (HZ.out k hkz).1
    have c1:wr.cell? ⟨b,k * 2 + 1,none⟩ = some (.slice (sl k).1 (sl k).2.1 (sl k).2.2):=(HW.out.cell (p:=⟨b,_,none⟩) hb).trans (HZ.out k hkz).2
    by_cases hq:ns[k] = nm
    · have HCL:Hid _:=same106_yes (mk ns[k]) (mk nm) (sl k).1 (sl k).2.1 (sl k).2.2 B wr (Nat.lt_of_lt_of_le hB HW.out.size) ((HW.out.cell (p:=⟨B,_,none⟩) hB).trans HC.out) (mk_eq hq)
      have HE:Hid (findN ns nm = k):=findN_at ns nm k hkz HA.out hq
      clear hq
      generalize mk ns[k] = z at c0 HCL
      generalize sl k = s at c1 HCL
      go_wp2_with fail
      refine Calls.mono HCL.out ?_
      rintro e w1 ⟨rfl,hb1⟩
      have HB1:Hid (Below w.heap.size w w1):=HW.out.trans (hb1.mono HW.out.size)
      clear hb1 c0 c1
      go_wp2
      go_ret
      rw [HE.out]
      exact ⟨rfl,HB1.out⟩
    · have HCL:Hid _:=same106_no (mk ns[k]) (mk nm) (sl k).1 (sl k).2.1 (sl k).2.2 B wr (Nat.lt_of_lt_of_le hB HW.out.size) ((HW.out.cell (p:=⟨B,_,none⟩) hB).trans HC.out) (mk_ne hq)
      have HA2:Hid (∀ j (h:j < ns.length),j < k + 1 → ns[j] ≠ nm):=fun j h hj => by
       by_cases e:j = k
       · subst e;exact hq
       · exact HA.out j h (by omega)
      clear hq
      generalize mk ns[k] = z at c0 HCL
      generalize sl k = s at c1 HCL
      go_wp2_with fail
      refine Calls.mono HCL.out ?_
      rintro e w1 ⟨rfl,hb1⟩
      have HB1:Hid (Below w.heap.size w w1):=HW.out.trans (hb1.mono HW.out.size)
      clear hb1 c0 c1
      go_wp2
      go_roundw
      case rel => exact ⟨k + 1,by omega,by go_num,HB1.out,HA2⟩
      case measure => simp [intOf];omega
  · have HE:Hid (findN ns nm = -1):=findN_no ns nm fun j h => HA.out j h (by rw [← HL.out] at h;omega)
    go_wp2
    go_ret
    rw [HE.out]
    exact ⟨rfl,HW.out⟩
set_option maxHeartbeats 1600000 in
theorem index197 (b n c:Nat) (ns:List (List UInt8)) (ks:Nat → Int) (nm:List UInt8) (B:Nat) (w:World) (hn:n = ns.length) (hn2:n ≤ 10) (hb:b < w.heap.size) (hB:B < w.heap.size) (hc:w.cell? ⟨B,0,none⟩ = some (.string (mk nm)))
 (hz:∀ j (h:j < ns.length),w.cell? ⟨b,j * 2,none⟩ = some (.string (mk ns[j])) ∧ w.cell? ⟨b,j * 2 + 1,none⟩ = some (.int .i64 (ks j))) :
 Calls Tryz.prog 197 #[.slice (some ⟨b,0,none⟩) n c,.func (.func 198) #[] #[.pointer (some ⟨B,0,none⟩)]] w fun e w' => e = .returned (.int .i64 (findN ns nm)) ∧ Below w.heap.size w w':=by
 have HZ:Hid _:=hz
 have HC:Hid (w.cell? ⟨B,0,none⟩ = some (.string (mk nm))):=hc
 have HL:Hid (n = ns.length):=hn
 clear hz hc hn
 go_enter Tryz.func197,Tryz.ntmps197
 go_wp2
 go_loopw [8] (fun t wr => ∃ k:Nat,k ≤ n ∧ t = .int .i64 k ∧ Below w.heap.size w wr ∧ Hid (∀ j (h:j < ns.length),j < k → ns[j] ≠ nm)) (fun t _ => n - (intOf t).toNat)
 case atStart => exact ⟨0,by omega,rfl,Below.refl _ _,fun j _ h => by omega⟩
 case round =>
  obtain ⟨k,hk,rfl,hw,HA⟩:=hrel
  have HW:Hid (Below w.heap.size w wr):=hw
  clear hw
  by_cases hlt:k < n
  · have hkz:k < ns.length:=by rw [← HL.out];exact hlt
    have c0:wr.cell? ⟨b,k * 2,none⟩ = some (.string (mk ns[k])):=(HW.out.cell (p:=⟨b,_,none⟩) hb).trans (HZ.out k hkz).1
    have c1:wr.cell? ⟨b,k * 2 + 1,none⟩ = some (.int .i64 (ks k)):=(HW.out.cell (p:=⟨b,_,none⟩) hb).trans (HZ.out k hkz).2
    by_cases hq:ns[k] = nm
    · have HCL:Hid _:=same115_yes (mk ns[k]) (mk nm) (ks k) B wr (Nat.lt_of_lt_of_le hB HW.out.size) ((HW.out.cell (p:=⟨B,_,none⟩) hB).trans HC.out) (mk_eq hq)
      have HE:Hid (findN ns nm = k):=findN_at ns nm k hkz HA.out hq
      clear hq
      generalize mk ns[k] = z at c0 HCL
      generalize ks k = s at c1 HCL
      go_wp2_with fail
      refine Calls.mono HCL.out ?_
      rintro e w1 ⟨rfl,hb1⟩
      have HB1:Hid (Below w.heap.size w w1):=HW.out.trans (hb1.mono HW.out.size)
      clear hb1 c0 c1
      go_wp2
      go_ret
      rw [HE.out]
      exact ⟨rfl,HB1.out⟩
    · have HCL:Hid _:=same115_no (mk ns[k]) (mk nm) (ks k) B wr (Nat.lt_of_lt_of_le hB HW.out.size) ((HW.out.cell (p:=⟨B,_,none⟩) hB).trans HC.out) (mk_ne hq)
      have HA2:Hid (∀ j (h:j < ns.length),j < k + 1 → ns[j] ≠ nm):=fun j h hj => by
       by_cases e:j = k
       · subst e;exact hq
       · exact HA.out j h (by omega)
      clear hq
      generalize mk ns[k] = z at c0 HCL
      generalize ks k = s at c1 HCL
      go_wp2_with fail
      refine Calls.mono HCL.out ?_
      rintro e w1 ⟨rfl,hb1⟩
      have HB1:Hid (Below w.heap.size w w1):=HW.out.trans (hb1.mono HW.out.size)
      clear hb1 c0 c1
      go_wp2
      go_roundw
      case rel => exact ⟨k + 1,by omega,by go_num,HB1.out,HA2⟩
      case measure => simp [intOf];omega
  · have HE:Hid (findN ns nm = -1):=findN_no ns nm fun j h => HA.out j h (by rw [← HL.out] at h;omega)
    go_wp2
    go_ret
    rw [HE.out]
    exact ⟨rfl,HW.out⟩
def numsTx (xs:List Int) (q:Nat):List UInt8:=(List.range q).flatMap fun k => (if 0 < k then [44] else []) ++ Lib.itoa (xs.getD k 0)
def listTx (xs:List Int):List UInt8:=91 :: (numsTx xs xs.length ++ [93])
theorem numsTx_succ (xs:List Int) (q:Nat):numsTx xs (q + 1) = numsTx xs q ++ ((if 0 < q then [44] else []) ++ Lib.itoa (xs.getD q 0)):=by
 unfold numsTx
 rw [List.range_succ,List.flatMap_append]
 simp
set_option maxHeartbeats 1600000 in
set_option maxRecDepth 20000 in
theorem appendList_any (B:Nat) (v:Value) (l:List UInt8) (ls:List Int) (lv:Value) (bl:Nat) (w:World) (hls:ls.length ≤ 4) (hlr:∀ x ∈ ls,-9223372036854775808 ≤ x ∧ x ≤ 9223372036854775807) (hLv:w.ownsRow bl 3 1 lv ls.length (ls.map (Value.int .i64))) (hLb:∀ k,lv.ownBlock = some k → k < B) (hT:TxAt w B v l) (hB:B ≤ w.heap.size) (hl:l.length ≤ 900000) (hP:PowB B w) :
 Calls Tryz.prog 260 #[v,lv] w (WEnds w B l (listTx ls)):=by
 obtain ⟨i0,hi0,hz0,hz1,hz2⟩:=info_parts Tryz.info5
 obtain ⟨a,c,rfl⟩:=hT.form
 obtain ⟨la,lc,rfl⟩:=own_form hLv
 have HT:Hid (TxAt w B (.slice a l.length c) l):=hT
 have HP:Hid (PowB B w):=hP
 obtain ⟨n,hn⟩:∃ n,n = l.length:=⟨_,rfl⟩
 rw [← hn] at HT hl ⊢
 have HN:Hid (n = l.length):=hn
 have HO:Hid (w.ownsRow B 5 1 (.slice a n c) n (Lib.byteCells l)):=by have:=HT.out;unfold TxAt at this;rw [← hn] at this;exact this
 obtain ⟨z,hz⟩:∃ z,z = ls.length:=⟨_,rfl⟩
 have HZ:Hid (z = ls.length):=hz
 rw [← hz] at hLv hLb hls ⊢
 have HLv:Hid (w.ownsRow bl 3 1 (.slice la z lc) z (ls.map (Value.int .i64))):=hLv
 have HLb:Hid (∀ k,(Value.slice la z lc).ownBlock = some k → k < B):=hLb
 have HLr:Hid (∀ x ∈ ls,-9223372036854775808 ≤ x ∧ x ≤ 9223372036854775807):=hlr
 have HIl:Hid (∀ x,-9223372036854775808 ≤ x → x ≤ 9223372036854775807 → (Lib.itoa x).length ≤ 21):=fun x h0 h1 => Lib.itoa_length_le x h0 h1
 clear hT hP hn hz hLv hLb hlr
 go_enter Tryz.func260,Tryz.ntmps260
 go_wp2_with (at_builtin;refine wpList_append_own_at _ rfl _ _ 166 rfl B 5 i0 _ 1 1 Tryz.underlying166 hi0 hz0 hz1 hz2 rfl (by decide) _ _ _ rfl (HO.out.alloc _) ⟨w.heap.size,0,none⟩ 1 1 [.int .u8 91] rfl rfl new_one (fun u hu => by simp at hu;rw [hu];rfl) (by unfold maxLen;omega) (by omega) (by simp;omega) ?_;intro v' w6 hown6 hgrow6 _ _;have HM:Hid (TxAt w6 B v' (l ++ [91]) ∧ Kp B w w6):=txAt_more HT.out hB (by rw [← HN.out];exact hown6) hgrow6;obtain ⟨sa',sc',rfl⟩:=own_form hown6;clear hown6 hgrow6)
 go_loopw [0,12] (fun x t wr => ∃ (q:Nat) (sa:Option Addr) (m sc:Nat) (acc:List UInt8),q ≤ z ∧ t = .int .i64 q ∧ x = .slice sa m sc ∧ m ≤ 900001 + 30 * q ∧ Hid (m = acc.length ∧ acc = l ++ [91] ++ numsTx ls q) ∧ Hid (TxAt wr B (.slice sa m sc) acc ∧ Kp B w wr)) (fun _ t _ => z - (intOf t).toNat)
 case atStart => exact ⟨0,_,_,_,l ++ [91],by omega,rfl,rfl,by omega,⟨by rw [List.length_append,← HN.out];rfl,by simp [numsTx]⟩,HM⟩
 case round =>
  obtain ⟨q,sa,m,sc,acc,hq,rfl,rfl,hm,HA,HX⟩:=hrel
  by_cases hlt:q < z
  · have hql:q < ls.length:=by rw [← HZ.out];exact hlt
    obtain ⟨gl,hla,el,hlc⟩:∃ gl,la = some ⟨gl,0,none⟩ ∧ wr.cell? ⟨gl,q,none⟩ = some (.int .i64 ls[q]) ∧ z ≤ lc:=by
     rcases HLv.out.2 with ⟨h1,h2⟩ | ⟨g',cap',cur,h1,h2,h3,h4,h5,h6,h7⟩
     · simp at h1;omega
     · simp at h1
       obtain ⟨rfl,rfl⟩:=h1
       refine ⟨g',rfl,?_,h4⟩
       rw [World.cell?_of_block (a:=⟨g',q,none⟩) (HX.out.2.block g' (HLb.out g' rfl)),HLv.out.cellAt q (by omega)]
       simp [hql]
    subst hla
    obtain ⟨r0,r1⟩:=HLr.out ls[q] (List.getElem_mem hql)
    have hwr:B ≤ wr.heap.size:=Nat.le_trans hB HX.out.2.size
    have hsu:=numsTx_succ ls q
    have hgd:ls.getD q 0 = ls[q]:=by simp [List.getD,hql]
    rw [hgd] at hsu
    have hil:=HIl.out ls[q] r0 r1
    have hO7:wr.ownsRow B 5 1 (.slice sa m sc) m (Lib.byteCells acc):=by have:=HX.out.1;unfold TxAt at this;rw [← HA.out.1] at this;exact this
    have HO7:Hid (wr.ownsRow B 5 1 (.slice sa m sc) m (Lib.byteCells acc)):=hO7
    clear hgd hO7
    generalize hx:ls[q] = x at el r0 r1 hsu hil
    clear hx
    by_cases h0:q = 0
    · subst h0
      have HE:Hid (acc ++ Lib.itoa x = l ++ [91] ++ numsTx ls (0 + 1)):=by show _ = _;rw [hsu,HA.out.2];simp
      have HC:Hid (Calls Tryz.prog 256 #[.slice sa m sc,.int .i64 x] wr (WEnds wr B acc (Lib.itoa x))):=appendDecimal_any B _ acc x wr r0 r1 HX.out.1 hwr (by rw [← HA.out.1];omega) (HP.out.on HX.out.2)
      clear hsu
      generalize Lib.itoa x = it at HE HC hil
      go_wp2_with fail
      refine Calls.mono HC.out ?_
      rintro e w8 ⟨v8,rfl,hT8,hb8⟩
      obtain ⟨a8,c8,rfl⟩:=hT8.form
      obtain ⟨m8,hm8⟩:∃ m8,m8 = (acc ++ it).length:=⟨_,rfl⟩
      rw [← hm8] at hT8 ⊢
      have h8:m8 ≤ 900001 + 30 * (0 + 1):=by rw [hm8];simp only [List.length_append,List.length_singleton,← HA.out.1];omega
      have HA8:Hid (m8 = (acc ++ it).length ∧ acc ++ it = l ++ [91] ++ numsTx ls (0 + 1)):=⟨hm8,HE.out⟩
      have HX8:Hid (TxAt w8 B (.slice a8 m8 c8) (acc ++ it) ∧ Kp B w w8):=⟨hT8,HX.out.2.trans hb8⟩
      clear hT8 hb8 hm8
      go_wp2_with fail
      exact ⟨⟨0 + 1,a8,m8,c8,acc ++ it,by omega,by go_num,rfl,h8,HA8,HX8⟩,by simp [intOf];omega⟩
    · have hq1:(0:Int) < (q:Int):=by omega
      have HE:Hid ((acc ++ [44]) ++ Lib.itoa x = l ++ [91] ++ numsTx ls (q + 1)):=by show _ = _;rw [hsu,HA.out.2,if_pos (by omega)];simp
      clear hsu
      generalize hit:Lib.itoa x = it at HE hil
      have HIt:Hid (Lib.itoa x = it):=hit
      clear hit
      go_wp2_with (at_builtin;refine wpList_append_own_at _ rfl _ _ 166 rfl B 5 i0 _ 1 1 Tryz.underlying166 hi0 hz0 hz1 hz2 rfl (by decide) _ _ _ rfl (HO7.out.alloc _) ⟨wr.heap.size,0,none⟩ 1 1 [.int .u8 44] rfl rfl new_one (fun u hu => by simp at hu;rw [hu];rfl) (by unfold maxLen;omega) (by omega) (by simp;omega) ?_;intro v' w7 hown6 hgrow6 _ _;have HM7:Hid (TxAt w7 B v' (acc ++ [44]) ∧ Kp B wr w7):=txAt_more HX.out.1 hwr (by rw [← HA.out.1];exact hown6) hgrow6;obtain ⟨sa7,sc7,rfl⟩:=own_form hown6;clear hown6 hgrow6)
      have HC:Hid (Calls Tryz.prog 256 #[.slice sa7 (m + 1) sc7,.int .i64 x] w7 (WEnds w7 B (acc ++ [44]) it)):=by rw [← HIt.out];exact appendDecimal_any B _ (acc ++ [44]) x w7 r0 r1 HM7.out.1 (Nat.le_trans hwr HM7.out.2.size) (by rw [List.length_append,← HA.out.1];simp;omega) ((HP.out.on HX.out.2).on HM7.out.2)
      refine Calls.mono HC.out ?_
      rintro e w8 ⟨v8,rfl,hT8,hb8⟩
      obtain ⟨a8,c8,rfl⟩:=hT8.form
      obtain ⟨m8,hm8⟩:∃ m8,m8 = ((acc ++ [44]) ++ it).length:=⟨_,rfl⟩
      rw [← hm8] at hT8 ⊢
      have h8:m8 ≤ 900001 + 30 * (q + 1):=by rw [hm8];simp only [List.length_append,List.length_singleton,← HA.out.1];omega
      have HA8:Hid (m8 = ((acc ++ [44]) ++ it).length ∧ (acc ++ [44]) ++ it = l ++ [91] ++ numsTx ls (q + 1)):=⟨hm8,HE.out⟩
      have HX8:Hid (TxAt w8 B (.slice a8 m8 c8) ((acc ++ [44]) ++ it) ∧ Kp B w w8):=⟨hT8,(HX.out.2.trans HM7.out.2).trans hb8⟩
      clear hT8 hb8 hm8
      go_wp2_with fail
      exact ⟨⟨q + 1,a8,m8,c8,(acc ++ [44]) ++ it,by omega,by go_num,rfl,h8,HA8,HX8⟩,by simp [intOf];omega⟩
  · obtain rfl:q = z:=by omega
    have HO7:Hid (wr.ownsRow B 5 1 (.slice sa m sc) m (Lib.byteCells acc)):=by have:=HX.out.1;unfold TxAt at this;rw [← HA.out.1] at this;exact this
    have HE:Hid (acc = l ++ [91] ++ numsTx ls ls.length):=by have:=HA.out.2;rw [HZ.out] at this;exact this
    have hwr:B ≤ wr.heap.size:=Nat.le_trans hB HX.out.2.size
    go_wp2_with (at_builtin;refine wpList_append_own_at _ rfl _ _ 166 rfl B 5 i0 _ 1 1 Tryz.underlying166 hi0 hz0 hz1 hz2 rfl (by decide) _ _ _ rfl (HO7.out.alloc _) ⟨wr.heap.size,0,none⟩ 1 1 [.int .u8 93] rfl rfl new_one (fun u hu => by simp at hu;rw [hu];rfl) (by unfold maxLen;omega) (by omega) (by simp;omega) ?_;intro v' w8 hown6 hgrow6 _ _;have HM8:Hid (TxAt w8 B v' (acc ++ [93]) ∧ Kp B wr w8):=txAt_more HX.out.1 hwr (by rw [← HA.out.1];exact hown6) hgrow6;obtain ⟨sa',sc',rfl⟩:=own_form hown6;clear hown6 hgrow6)
    go_ret
    refine ⟨_,rfl,?_,HX.out.2.trans HM8.out.2⟩
    have e:l ++ listTx ls = acc ++ [93]:=by rw [HE.out];simp [listTx]
    rw [e]
    exact HM8.out.1
def boolTx (n:Int):List UInt8:=[if n = 0 then 102 else 116]
def refTx (n:Nat):List UInt8:=if n = 0 then [45] else 64 :: Lib.itoa ((n:Int) - 1)
def valTx (x:SV):List UInt8:=if x.k = 1 then Lib.itoa x.n else if x.k = 2 then boolTx x.n else if x.k = 3 then quotedTx x.s else if x.k = 4 then refTx x.n.toNat else listTx x.l
structure SVOk (x:SV):Prop where
 kind:1 ≤ x.k ∧ x.k ≤ 5
 num:-9223372036854775808 ≤ x.n ∧ x.n ≤ 9223372036854775807
 ref:x.k = 4 → 0 ≤ x.n ∧ x.n ≤ 1000
 text:x.s.length ≤ 100
 few:x.l.length ≤ 4
 nums:∀ y ∈ x.l,-9223372036854775808 ≤ y ∧ y ≤ 9223372036854775807
set_option maxHeartbeats 1600000 in
set_option maxRecDepth 20000 in
theorem appendValue_any (B:Nat) (v:Value) (l:List UInt8) (x:SV) (lv:Value) (bl:Nat) (w:World) (hx:SVOk x) (hLv:w.ownsRow bl 3 1 lv x.l.length (x.l.map (Value.int .i64))) (hLb:∀ k,lv.ownBlock = some k → k < B) (hT:TxAt w B v l) (hB:B ≤ w.heap.size) (hl:l.length ≤ 900000) (hP:PowB B w) :
 Calls Tryz.prog 216 #[v,.agg (svCells x lv).toArray] w (WEnds w B l (valTx x)):=by
 obtain ⟨k,n,s,ls⟩:=x
 obtain ⟨⟨k1,k5⟩,⟨h0,h1⟩,href,hsl,hls,hlr⟩:=hx
 simp only at k1 k5 h0 h1 href hsl hls hlr hLv
 obtain ⟨a,c,rfl⟩:=hT.form
 obtain ⟨la,lc,hlv⟩:=own_form hLv
 obtain ⟨W1,hW1⟩:∃ W1,W1 = w.alloc (.cells #[.int .i64 k,.int .i64 n,.string (mk s),.int .i64 0,.int .i64 0,lv] 56):=⟨_,rfl⟩
 have hB1:Kp B w W1:=by rw [hW1];exact (Kp.refl _ _).alloc hB _
 have hs1:B ≤ W1.heap.size:=Nat.le_trans hB hB1.size
 have hT1:TxAt W1 B (.slice a l.length c) l:=by rw [hW1];exact World.ownsRow.alloc hT _
 have hP1:PowB B W1:=hP.on hB1
 have hk:k = 1 ∨ k = 2 ∨ k = 3 ∨ k = 4 ∨ k = 5:=by omega
 rcases hk with rfl | rfl | rfl | rfl | rfl
 · have HC:Hid (Calls Tryz.prog 256 #[.slice a l.length c,.int .i64 n] W1 (WEnds W1 B l (Lib.itoa n))):=appendDecimal_any B _ l n W1 h0 h1 hT1 hs1 (by omega) hP1
   have hv:valTx ⟨1,n,s,ls⟩ = Lib.itoa n:=by unfold valTx;simp
   rw [hv]
   rw [hW1] at HC hB1
   rw [show ((1:Nat):Int) = 1 from rfl] at HC hB1
   simp only [svCells]
   rw [show ((1:Nat):Int) = 1 from rfl]
   subst hlv
   generalize Lib.itoa n = tx at HC ⊢
   clear hT hP hT1 hP1 hLv hLb hlr hs1 hW1 hv
   go_enter Tryz.func216,Tryz.ntmps216
   go_wp2_with fail
   refine Calls.mono HC.out ?_
   rintro e w8 ⟨v8,rfl,hT8,hb8⟩
   obtain ⟨a8,c8,rfl⟩:=hT8.form
   have HX8:Hid (TxAt w8 B (.slice a8 (l ++ tx).length c8) (l ++ tx) ∧ Kp B w w8):=⟨hT8,hB1.trans hb8⟩
   clear hT8 hb8
   generalize (l ++ tx).length = m8 at HX8 ⊢
   go_wp2_with fail
   go_ret
   exact ⟨_,rfl,HX8.out.1,HX8.out.2⟩
 · have HC:Hid (Calls Tryz.prog 257 #[.slice a l.length c,.int .i64 n] W1 (WEnds W1 B l (boolTx n))):=appendBool_any B _ l n W1 hT1 hs1 (by omega)
   have hv:valTx ⟨2,n,s,ls⟩ = boolTx n:=by unfold valTx;simp
   rw [hv]
   rw [hW1] at HC hB1
   rw [show ((2:Nat):Int) = 2 from rfl] at HC hB1
   simp only [svCells]
   rw [show ((2:Nat):Int) = 2 from rfl]
   subst hlv
   generalize boolTx n = tx at HC ⊢
   clear hT hP hT1 hP1 hLv hLb hlr hs1 hW1 hv
   go_enter Tryz.func216,Tryz.ntmps216
   go_wp2_with fail
   refine Calls.mono HC.out ?_
   rintro e w8 ⟨v8,rfl,hT8,hb8⟩
   obtain ⟨a8,c8,rfl⟩:=hT8.form
   have HX8:Hid (TxAt w8 B (.slice a8 (l ++ tx).length c8) (l ++ tx) ∧ Kp B w w8):=⟨hT8,hB1.trans hb8⟩
   clear hT8 hb8
   generalize (l ++ tx).length = m8 at HX8 ⊢
   go_wp2_with fail
   go_ret
   exact ⟨_,rfl,HX8.out.1,HX8.out.2⟩
 · have HC:Hid (Calls Tryz.prog 258 #[.slice a l.length c,.string (mk s)] W1 (WEnds W1 B l (quotedTx s))):=appendQuoted_any B _ l s W1 hsl hT1 hs1 hl
   have hv:valTx ⟨3,n,s,ls⟩ = quotedTx s:=by unfold valTx;simp
   rw [hv]
   rw [hW1] at HC hB1
   rw [show ((3:Nat):Int) = 3 from rfl] at HC hB1
   simp only [svCells]
   rw [show ((3:Nat):Int) = 3 from rfl]
   subst hlv
   generalize quotedTx s = tx at HC ⊢
   clear hT hP hT1 hP1 hLv hLb hlr hs1 hW1 hv
   go_enter Tryz.func216,Tryz.ntmps216
   go_wp2_with fail
   refine Calls.mono HC.out ?_
   rintro e w8 ⟨v8,rfl,hT8,hb8⟩
   obtain ⟨a8,c8,rfl⟩:=hT8.form
   have HX8:Hid (TxAt w8 B (.slice a8 (l ++ tx).length c8) (l ++ tx) ∧ Kp B w w8):=⟨hT8,hB1.trans hb8⟩
   clear hT8 hb8
   generalize (l ++ tx).length = m8 at HX8 ⊢
   go_wp2_with fail
   go_ret
   exact ⟨_,rfl,HX8.out.1,HX8.out.2⟩
 · have HC:Hid (Calls Tryz.prog 259 #[.slice a l.length c,.int .i64 n] W1 (WEnds W1 B l (refTx n.toNat))):=by have:=href rfl;exact (by have t:Calls Tryz.prog 259 #[.slice a l.length c,.int .i64 ((n.toNat:Nat):Int)] W1 (WEnds W1 B l (refTx n.toNat)):=appendRef_any B _ l n.toNat W1 (by omega) hT1 hs1 (by omega) hP1;rw [show ((n.toNat:Nat):Int) = n by omega] at t;exact t)
   have hv:valTx ⟨4,n,s,ls⟩ = refTx n.toNat:=by unfold valTx;simp
   rw [hv]
   rw [hW1] at HC hB1
   rw [show ((4:Nat):Int) = 4 from rfl] at HC hB1
   simp only [svCells]
   rw [show ((4:Nat):Int) = 4 from rfl]
   subst hlv
   generalize refTx n.toNat = tx at HC ⊢
   clear hT hP hT1 hP1 hLv hLb hlr hs1 hW1 hv
   go_enter Tryz.func216,Tryz.ntmps216
   go_wp2_with fail
   refine Calls.mono HC.out ?_
   rintro e w8 ⟨v8,rfl,hT8,hb8⟩
   obtain ⟨a8,c8,rfl⟩:=hT8.form
   have HX8:Hid (TxAt w8 B (.slice a8 (l ++ tx).length c8) (l ++ tx) ∧ Kp B w w8):=⟨hT8,hB1.trans hb8⟩
   clear hT8 hb8
   generalize (l ++ tx).length = m8 at HX8 ⊢
   go_wp2_with fail
   go_ret
   exact ⟨_,rfl,HX8.out.1,HX8.out.2⟩
 · have HC:Hid (Calls Tryz.prog 260 #[.slice a l.length c,lv] W1 (WEnds W1 B l (listTx ls))):=appendList_any B _ l ls lv bl W1 hls hlr (by rw [hW1];exact hLv.alloc _) hLb hT1 hs1 hl hP1
   have hv:valTx ⟨5,n,s,ls⟩ = listTx ls:=by unfold valTx;simp
   rw [hv]
   rw [hW1] at HC hB1
   rw [show ((5:Nat):Int) = 5 from rfl] at HC hB1
   simp only [svCells]
   rw [show ((5:Nat):Int) = 5 from rfl]
   subst hlv
   generalize listTx ls = tx at HC ⊢
   clear hT hP hT1 hP1 hLv hLb hlr hs1 hW1 hv
   go_enter Tryz.func216,Tryz.ntmps216
   go_wp2_with fail
   refine Calls.mono HC.out ?_
   rintro e w8 ⟨v8,rfl,hT8,hb8⟩
   obtain ⟨a8,c8,rfl⟩:=hT8.form
   have HX8:Hid (TxAt w8 B (.slice a8 (l ++ tx).length c8) (l ++ tx) ∧ Kp B w w8):=⟨hT8,hB1.trans hb8⟩
   clear hT8 hb8
   generalize (l ++ tx).length = m8 at HX8 ⊢
   go_wp2_with fail
   go_ret
   exact ⟨_,rfl,HX8.out.1,HX8.out.2⟩
theorem txAt_str {w w6:World} {B:Nat} {v v':Value} {l x:List UInt8} (h:TxAt w B v l) (hB:B ≤ w.heap.size) (h6:w6.ownsRow B 5 1 v' (l.length + (mk x).size) (Lib.byteCells l ++ Lib.strCells (mk x))) (hg:w.grownBy w6 v.ownBlock):TxAt w6 B v' (l ++ x) ∧ Kp B w w6:=by
 refine ⟨?_,?_⟩
 · unfold TxAt
   rw [byteCells_append,List.length_append]
   rw [size_mk] at h6
   have e:Lib.strCells (mk x) = Lib.byteCells x:=by
    unfold Lib.strCells Lib.byteCells
    rw [data_mk]
   rw [e] at h6
   exact h6
 · exact Kp.grown (Kp.refl _ _) hg hB (tx_u8 h)
theorem tx_str_step {wr w7 w8:World} {B p:Nat} {acc fn:List UInt8} {v7 v8:Value} (hwr:B ≤ wr.heap.size) (h7:TxAt w7 B v7 acc ∧ Kp B wr w7) (hp:p = acc.length) (hown8:w8.ownsRow B 5 1 v8 (p + (mk fn).size) (Lib.byteCells acc ++ Lib.strCells (mk fn))) (hgrow8:w7.grownBy w8 v7.ownBlock):TxAt w8 B v8 (acc ++ fn) ∧ Kp B wr w8:=by
 have z:=txAt_str (v':=v8) (x:=fn) h7.1 (Nat.le_trans hwr h7.2.size) (by rw [← hp];exact hown8) hgrow8
 exact ⟨z.1,h7.2.trans z.2⟩
theorem tx_one_step {wr w7 w8:World} {B p:Nat} {acc:List UInt8} {x:UInt8} {v7 v8:Value} {o:Obj} (hwr:B ≤ wr.heap.size) (h7:TxAt w7 B v7 acc ∧ Kp B wr w7) (hp:p = acc.length) (hown8:w8.ownsRow B 5 1 v8 (p + 1) (Lib.byteCells acc ++ [.int .u8 x.toNat])) (hgrow8:(w7.alloc o).grownBy w8 v7.ownBlock):TxAt w8 B v8 (acc ++ [x]) ∧ Kp B wr w8:=by
 have z:=txAt_more (v':=v8) (x:=[x]) h7.1 (Nat.le_trans hwr h7.2.size) (by rw [← hp];exact hown8) hgrow8
 exact ⟨z.1,h7.2.trans z.2⟩
def fieldTx (c:CompS) (vs:List SV) (j:Nat):List UInt8:=32 :: ((c.2.getD j ([],0)).1 ++ 61 :: valTx (vs.getD j ⟨0,0,[],[]⟩))
def fieldsTx (c:CompS) (vs:List SV) (q:Nat):List UInt8:=(List.range q).flatMap (fieldTx c vs)
def lineTx (c:CompS) (vs:List SV):List UInt8:=c.1 ++ (fieldsTx c vs c.2.length ++ [10])
theorem fieldsTx_succ (c:CompS) (vs:List SV) (q:Nat):fieldsTx c vs (q + 1) = fieldsTx c vs q ++ fieldTx c vs q:=by
 unfold fieldsTx
 rw [List.range_succ,List.flatMap_append]
 simp
theorem itoa_len {x:Int} (h:-9223372036854775808 ≤ x ∧ x ≤ 9223372036854775807):(Lib.itoa x).length ≤ 21:=Lib.itoa_length_le x h.1 h.2
theorem numsTx_len (xs:List Int) (h:∀ y ∈ xs,-9223372036854775808 ≤ y ∧ y ≤ 9223372036854775807):∀ q,q ≤ xs.length → (numsTx xs q).length ≤ 22 * q
 | 0,_ => by simp [numsTx]
 | q + 1,hq => by
  rw [numsTx_succ,List.length_append,List.length_append]
  have h1:=numsTx_len xs h q (by omega)
  have hql:q < xs.length:=by omega
  have h2:(Lib.itoa (xs.getD q 0)).length ≤ 21:=by
   have e:xs.getD q 0 = xs[q]:=by simp [List.getD,hql]
   rw [e];exact itoa_len (h _ (List.getElem_mem hql))
  have h3:(if 0 < q then [(44:UInt8)] else []).length ≤ 1:=by split <;> simp
  omega
theorem valTx_len {x:SV} (h:SVOk x):(valTx x).length ≤ 500:=by
 unfold valTx
 split
 · exact Nat.le_trans (itoa_len h.num) (by omega)
 · split
   · unfold boolTx;simp
   · split
     · unfold quotedTx
       have:=flat_len4 x.s
       have:=h.text
       simp only [List.length_cons,List.length_append,List.length_nil]
       omega
     · split
       · rename_i _ _ _ h4
         have hr:=h.ref h4
         unfold refTx
         split
         · simp
         · have:(Lib.itoa ((x.n.toNat:Int) - 1)).length ≤ 21:=itoa_len (by omega)
           simp only [List.length_cons]
           omega
       · unfold listTx
         have:=numsTx_len x.l h.nums x.l.length (Nat.le_refl _)
         have:=h.few
         simp only [List.length_cons,List.length_append,List.length_nil]
         omega
def Lit (w:World) (B:Nat) (v:Value) (l:List UInt8):Prop:=∃ g cs fz,v = .slice (some ⟨g,0,none⟩) l.length l.length ∧ B ≤ g ∧ w.heap[g]? = some (.cells cs 5 fz) ∧ cs.toList = Lib.byteCells l
def TxS (w:World) (B:Nat) (v:Value) (l:List UInt8):Prop:=TxAt w B v l ∨ Lit w B v l
theorem Lit.kept {w w':World} {B:Nat} {v:Value} {l:List UInt8} (h:Lit w B v l) (hb:∀ k,k < w.heap.size → w'.heap[k]? = w.heap[k]?):Lit w' B v l:=by
 obtain ⟨g,cs,fz,h1,h2,h3,h4⟩:=h
 exact ⟨g,cs,fz,h1,h2,(hb g (Array.getElem?_eq_some_iff.1 h3).1).trans h3,h4⟩
theorem TxS.alloc {w:World} {B:Nat} {v:Value} {l:List UInt8} (h:TxS w B v l) (o:Obj):TxS (w.alloc o) B v l:=by
 rcases h with h | h
 · exact Or.inl (World.ownsRow.alloc h o)
 · exact Or.inr (h.kept fun k hk => Below.heap_alloc _ _ _ hk)
theorem lit_made (w:World) (B:Nat) (l:List UInt8) (cs:Array Value) (fz:Nat × Nat) (hB:B ≤ w.heap.size) (hc:cs.toList = Lib.byteCells l):Lit (w.alloc (.cells cs 5 fz)) B (.slice (some ⟨w.heap.size,0,none⟩) l.length l.length) l:=⟨w.heap.size,cs,fz,rfl,hB,heap_alloc_at rfl _,hc⟩
theorem byteCells_len (l:List UInt8):(Lib.byteCells l).length = l.length:=by simp [Lib.byteCells]
theorem strCells_mk (x:List UInt8):Lib.strCells (mk x) = Lib.byteCells x:=by
 unfold Lib.strCells Lib.byteCells
 rw [data_mk]
theorem lit_cells {w:World} {g:Nat} {cs:Array Value} {fz:Nat × Nat} {l:List UInt8} (h3:w.heap[g]? = some (.cells cs 5 fz)) (h4:cs.toList = Lib.byteCells l):∀ j u,(Lib.byteCells l)[j]? = some u → w.cell? ((⟨g,0,none⟩:Addr).add j) = some u:=fun j u hu => by
 rw [Addr.add_lit,Nat.zero_add,cell_row h3,← hu,← h4]
 simp
theorem lit_grown (w:World) (B n cap:Nat) (z:Value) (l x:List UInt8) (hz:z.cells.size = 1) (hn:n = l.length + x.length) (hc:n ≤ cap) (hcm:cap ≤ maxLen) (hB:B ≤ w.heap.size):TxAt (w.drew.alloc (.cells ((Lib.byteCells l).toArray ++ (Lib.byteCells x).toArray ++ Builtin.zeroCells z.cells (cap - n)) 5)) B (.slice (some ⟨w.heap.size,0,none⟩) n cap) (l ++ x) ∧ Kp B w (w.drew.alloc (.cells ((Lib.byteCells l).toArray ++ (Lib.byteCells x).toArray ++ Builtin.zeroCells z.cells (cap - n)) 5)):=by
 have hlen:(l ++ x).length = n:=by rw [List.length_append];exact hn.symm
 refine ⟨?_,((Kp.refl B w).drew).alloc hB _⟩
 unfold TxAt
 rw [hlen,byteCells_append]
 refine ⟨by rw [List.length_append,byteCells_len,byteCells_len];omega,Or.inr ⟨w.heap.size,cap,_,rfl,hB,heap_alloc_new w.drew _,hc,hcm,?_,?_⟩⟩
 · simp only [Array.size_append,List.size_toArray,size_zeroCells,hz,byteCells_len]
   omega
 · simp only [Array.toList_append]
   rw [List.take_append_of_le_length (by rw [List.length_append,byteCells_len,byteCells_len];omega),List.take_of_length_le (by rw [List.length_append,byteCells_len,byteCells_len];omega)]
theorem TxS.str {w:World} {B:Nat} {v:Value} {l x:List UInt8} (h:TxS w B v l) (h0:0 < x.length) (hl:l.length + x.length ≤ 2000000) (hB:B ≤ w.heap.size) (ty:TypeId):∃ v' w',(Builtin.append_ #[166,9] ty #[v,.string (mk x)]).run Tryz.prog w = .ok v' w' ∧ TxAt w' B v' (l ++ x) ∧ Kp B w w':=by
 obtain ⟨i0,hi0,hz0,hz1,hz2⟩:=info_parts Tryz.info5
 have hsz:(mk x).size = x.length:=size_mk x
 rcases h with h | ⟨g,cs,fz,rfl,hg,h3,h4⟩
 · obtain ⟨v',w',r1,r2,r3,_⟩:=Lib.run_append_own_string (P:=Tryz.prog) w B 166 9 ty 5 i0 Tryz.underlying166 Tryz.underlying9 hi0 hz0 hz1 hz2 v l.length (Lib.byteCells l) h (mk x) (by unfold maxLen;omega) (by omega) hB
   have z:=txAt_str h hB r2 r3
   exact ⟨v',w',r1,z.1,z.2⟩
 · have r:=Lib.run_append_grow_string (P:=Tryz.prog) w 166 9 ty 5 i0 (.int .u8 0) Tryz.underlying166 Tryz.underlying9 hi0 hz0 ⟨g,0,none⟩ l.length l.length (Lib.byteCells l) (by rw [hz1,byteCells_len];omega) (lit_cells h3 h4) (mk x) (by omega) (by omega) (by rw [hz2];exact growslice_fits (by omega) (by omega))
   rw [strCells_mk] at r
   have hge:=grownCap_ge w (l.length + (mk x).size) l.length 5
   have hcm:=grownCap_le_maxLen w (l.length + (mk x).size) l.length 5 (by unfold maxLen;omega)
   have z:=lit_grown w B (l.length + (mk x).size) _ (.int .u8 0) l x rfl (by omega) hge hcm hB
   exact ⟨_,_,r,z.1,z.2⟩
theorem wpList_append_S {w:World} {ops:Array Oper} {rest:List Oper} {o:Oper} {a:Act} {Q:Exit → Act → World → Prop} (hgd:o.guard = none) (sl x:Operand) (ho:o.op = .call { callee:=.builtin .append,args:=#[sl,x],argTypes:=#[166,9] }) (B:Nat) (v:Value) (l:List UInt8) (hs:a.eval sl = v) (hT:TxS w B v l) (xs:List UInt8) (hx:a.eval x = .string (mk xs)) (h0:0 < xs.length) (hl:l.length + xs.length ≤ 2000000) (hB:B ≤ w.heap.size)
 (h:∀ v' w',TxAt w' B v' (l ++ xs) → Kp B w w' → wpList Tryz.prog ops Q rest (a.put o.dst v') w'):wpList Tryz.prog ops Q (o :: rest) a w:=by
 refine wpList_plain hgd fun K hK => ?_
 obtain ⟨v',w',hr,h2,h3⟩:=hT.str h0 hl hB o.type
 unfold Oper.wp execOp
 simp only [ho,resolve,invoke,builtin,Sem.run_bind,Sem.run_pure,Result.andThen_ok,List.map_toArray,List.map_cons,List.map_nil,hs,hx,hr]
 exact hK _ _ (h v' w' h2 h3)
end Go.Proofs.YthkbeaffkcfgiabGreatDoor
