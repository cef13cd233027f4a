import Derived.Orders
import Derived.Test.YthkbeaffkcfgiabGreatDoorR42
set_option linter.unusedSimpArgs false
set_option linter.unusedVariables false
namespace Go.Proofs.YthkbeaffkcfgiabGreatDoor
open Go.RowKit
structure OvV where
 o:Ov
 va:Option Addr
 vc:Nat
def ovVal (x:OvV):Value:=.agg (ovCells x.o (mk x.o.s) (mk x.o.c) (mk x.o.f) x.va x.o.ls.length x.vc)
def wrongN (L:List CompS) (S:St) (cs:List Nat):List OvV → Int
 | [] => -1
 | x :: l => if allowsP L S cs x.o then (if wrongN L S cs l < 0 then -1 else wrongN L S cs l + 1) else 0
set_option maxHeartbeats 300000 in
set_option maxRecDepth 100000 in
theorem put1 {own:Nat → Nat} {b g lc N:Nat} {L:List CompS} {S:St} {w:World} (hW:WT w own b g lc N L S) (bx sx sg n vcs:Nat) (cs:List Nat) (hn:n = cs.length) (hnv:n ≤ vcs) (hn20:n ≤ 1000) (hsg:sg < w.heap.size) (hcs:∀ j,j < n → w.cell? ⟨sg,j * 7,none⟩ = some (.int .u64 (cs.getD j 0:Int)) ∧ cs.getD j 0 < 64) (x:OvV)
 (b0:w.cell? ⟨bx,0,none⟩ = some (.pointer (some ⟨b,0,none⟩))) (b1:w.cell? ⟨sx,0,none⟩ = some (.slice (some ⟨sg,0,none⟩) n vcs)) :
 Calls Tryz.prog 77 #[ovVal x,.pointer (some ⟨bx,0,none⟩),.pointer (some ⟨sx,0,none⟩)] w fun e w' => e = .returned (.bool (!allowsP L S cs x.o)) ∧ Below w.heap.size w w':=by
 obtain ⟨⟨oe,oc,of,ok,on,os,op,ol,ols⟩,va,vc⟩:=x
 unfold ovVal ovCells
 simp only
 obtain ⟨V,hV⟩:∃ V,V = w.alloc (.cells #[.int .i64 oe,.string (mk oc),.string (mk of),.int .i64 ok,.int .i64 on,.string (mk os),.int .i64 op,.int .i64 ol,.slice va ols.length vc] 76):=⟨_,rfl⟩
 have hB:Below w.heap.size w V:=by rw [hV];exact (Below.refl _ _).alloc (Nat.le_refl _) _
 have HA:Hid (∀ W,W = V → Calls Tryz.prog 78 #[.pointer (some ⟨b,0,none⟩),.slice (some ⟨sg,0,none⟩) n vcs,.agg #[.int .i64 oe,.string (mk oc),.string (mk of),.int .i64 ok,.int .i64 on,.string (mk os),.int .i64 op,.int .i64 ol,.slice va ols.length vc]] W fun e w' => e = .returned (.bool (allowsP L S cs ⟨oe,oc,of,ok,on,os,op,ol,ols⟩)) ∧ Below w.heap.size w w'):=by
  rintro W rfl
  exact (allows_w (hW.below hB) sg n vcs cs hn hnv hn20 (Nat.lt_of_lt_of_le hsg hB.size) (fun j hj => ⟨(hB.cell (p:=⟨sg,_,none⟩) hsg).trans (hcs j hj).1,(hcs j hj).2⟩) ⟨oe,oc,of,ok,on,os,op,ol,ols⟩ va vc).mono fun _ _ ⟨h1,h2⟩ => ⟨h1,hB.trans (h2.mono hB.size)⟩
 have hbx:bx < w.heap.size:=World.block_lt_of_cell? _ _ b0
 have hsx:sx < w.heap.size:=World.block_lt_of_cell? _ _ b1
 have hn1:bx ≠ w.heap.size:=by omega
 have hn2:sx ≠ w.heap.size:=by omega
 generalize allowsP L S cs ⟨oe,oc,of,ok,on,os,op,ol,ols⟩ = r at HA ⊢
 have HVe:Hid (_ = V):=hV.symm
 clear hW hcs hB hV hn
 generalize ols.length = nl at HA HVe ⊢
 generalize mk os = ms at HA HVe ⊢
 generalize mk of = mf at HA HVe ⊢
 generalize mk oc = mc at HA HVe ⊢
 go_enter Tryz.func77,Tryz.ntmps77
 go_wp2_with (go_at_call 78;refine (HA.out _ HVe.out).mono ?_;rintro e w2 ⟨rfl,hb⟩)
 go_ret
 exact ⟨by simp,hb⟩
theorem wrongN_at (L:List CompS) (S:St) (cs:List Nat):∀ (xs:List OvV) (k:Nat) (h:k < xs.length),(∀ j (h:j < xs.length),j < k → allowsP L S cs xs[j].o = true) → allowsP L S cs xs[k].o = false → wrongN L S cs xs = k
 | [],k,h,_,_ => by simp at h
 | x :: l,0,_,_,he => by
   have he':allowsP L S cs x.o = false:=by simpa using he
   unfold wrongN
   rw [he'];rfl
 | x :: l,k + 1,h,ha,he => by
   have ih:=wrongN_at L S cs l k (by simpa using h) (fun j hj hk => by have:=ha (j + 1) (by simpa using hj) (by omega);simpa using this) (by simpa using he)
   have h0:allowsP L S cs x.o = true:=by have:=ha 0 (by simp) (by omega);simpa using this
   unfold wrongN
   rw [h0,if_pos rfl,ih,if_neg (by omega)]
   simp
theorem wrongN_no (L:List CompS) (S:St) (cs:List Nat):∀ xs:List OvV,(∀ j (h:j < xs.length),allowsP L S cs xs[j].o = true) → wrongN L S cs xs = -1
 | [],_ => rfl
 | x :: l,ha => by
   have ih:=wrongN_no L S cs l (fun j hj => by have:=ha (j + 1) (by simpa using hj);simpa using this)
   have h0:allowsP L S cs x.o = true:=by have:=ha 0 (by simp);simpa using this
   unfold wrongN
   rw [h0,if_pos rfl,ih]
   rfl
def OversAt (w:World) (og:Nat) (xs:List OvV):Prop:=og < w.heap.size ∧ ∀ j (h:j < xs.length) o,o < 9 → w.cell? ⟨og,j * 9 + o,none⟩ = (ovCells xs[j].o (mk xs[j].o.s) (mk xs[j].o.c) (mk xs[j].o.f) xs[j].va xs[j].o.ls.length xs[j].vc)[o]?
theorem OversAt.below {w w':World} {og:Nat} {xs:List OvV} (h:OversAt w og xs) (hb:Below w.heap.size w w'):OversAt w' og xs:=⟨Nat.lt_of_lt_of_le h.1 hb.size,fun j hj o ho => (hb.cell (p:=⟨og,_,none⟩) h.1).trans (h.2 j hj o ho)⟩
set_option maxHeartbeats 1600000 in
set_option maxRecDepth 100000 in
theorem index76 {own:Nat → Nat} {b g lc N:Nat} {L:List CompS} {S:St} {w:World} (hW:WT w own b g lc N L S) (bx sx sg n vcs:Nat) (cs:List Nat) (hn:n = cs.length) (hnv:n ≤ vcs) (hn20:n ≤ 1000) (hsg:sg < w.heap.size) (hcs:∀ j,j < n → w.cell? ⟨sg,j * 7,none⟩ = some (.int .u64 (cs.getD j 0:Int)) ∧ cs.getD j 0 < 64)
 (b0:w.cell? ⟨bx,0,none⟩ = some (.pointer (some ⟨b,0,none⟩))) (b1:w.cell? ⟨sx,0,none⟩ = some (.slice (some ⟨sg,0,none⟩) n vcs)) (og oc m:Nat) (xs:List OvV) (hm:m = xs.length) (hm2:m ≤ 100) (hO:OversAt w og xs) :
 Calls Tryz.prog 76 #[.slice (some ⟨og,0,none⟩) m oc,.func (.func 77) #[] #[.pointer (some ⟨bx,0,none⟩),.pointer (some ⟨sx,0,none⟩)]] w fun e w' => e = .returned (.int .i64 (wrongN L S cs xs)) ∧ Below w.heap.size w w':=by
 have hbx:bx < w.heap.size:=World.block_lt_of_cell? _ _ b0
 have hsx:sx < w.heap.size:=World.block_lt_of_cell? _ _ b1
 have HO:Hid (OversAt w og xs):=hO
 have HL:Hid (m = xs.length):=hm
 have HC1:Hid (∀ x:OvV,∀ W,Below w.heap.size w W → Calls Tryz.prog 77 #[ovVal x,.pointer (some ⟨bx,0,none⟩),.pointer (some ⟨sx,0,none⟩)] W fun e w' => e = .returned (.bool (!allowsP L S cs x.o)) ∧ Below w.heap.size w w'):=fun x W hb =>
  (put1 (hW.below hb) bx sx sg n vcs cs hn hnv hn20 (Nat.lt_of_lt_of_le hsg hb.size) (fun j hj => ⟨(hb.cell (p:=⟨sg,_,none⟩) hsg).trans (hcs j hj).1,(hcs j hj).2⟩) x ((hb.cell (p:=⟨bx,_,none⟩) hbx).trans b0) ((hb.cell (p:=⟨sx,_,none⟩) hsx).trans b1)).mono fun _ _ ⟨h1,h2⟩ => ⟨h1,hb.trans (h2.mono hb.size)⟩
 have HW:Hid (∀ k (h:k < xs.length),(∀ j (h:j < xs.length),j < k → allowsP L S cs xs[j].o = true) → allowsP L S cs xs[k].o = false → wrongN L S cs xs = k):=wrongN_at L S cs xs
 have HWn:Hid ((∀ j (h:j < xs.length),allowsP L S cs xs[j].o = true) → wrongN L S cs xs = -1):=wrongN_no L S cs xs
 generalize wrongN L S cs xs = r at HW HWn ⊢
 clear hW hcs hO hm b0 b1 hn
 go_enter Tryz.func76,Tryz.ntmps76
 go_wp2
 go_loopw [8] (fun t wr => ∃ k:Nat,k ≤ m ∧ t = .int .i64 k ∧ Below w.heap.size w wr ∧ Hid (∀ j (h:j < xs.length),j < k → allowsP L S cs xs[j].o = true)) (fun t _ => m - (intOf t).toNat)
 case atStart => exact ⟨0,by omega,rfl,Below.refl _ _,fun j _ h => by omega⟩
 case round =>
  obtain ⟨k,hk,rfl,hw,HA⟩:=hrel
  have HB:Hid (Below w.heap.size w wr):=hw
  clear hw
  by_cases hlt:k < m
  · have hkz:k < xs.length:=by rw [← HL.out];exact hlt
    have hcell:=(HO.out.below HB.out).2 k hkz
    have HCL:Hid _:=HC1.out xs[k] wr HB.out
    have HWk:=HW.out k hkz HA.out
    have HAk:Hid (allowsP L S cs xs[k].o = true → ∀ j (h:j < xs.length),j < k + 1 → allowsP L S cs xs[j].o = true):=fun ht j h hj => by
     by_cases e:j = k
     · subst e;exact ht
     · exact HA.out j h (by omega)
    generalize xs[k] = x at hcell HCL HWk HAk
    obtain ⟨⟨oe,occ,of,ok,on,os,op,ol,ols⟩,va,vc⟩:=x
    unfold ovVal at HCL
    unfold ovCells at hcell HCL
    simp only at hcell HCL
    have c0:=hcell 0 (by omega);have c1:=hcell 1 (by omega);have c2:=hcell 2 (by omega);have c3:=hcell 3 (by omega);have c4:=hcell 4 (by omega);have c5:=hcell 5 (by omega);have c6:=hcell 6 (by omega);have c7:=hcell 7 (by omega);have c8:=hcell 8 (by omega)
    clear hcell
    simp only [List.getElem?_toArray,List.getElem?_cons_zero,List.getElem?_cons_succ,Nat.add_zero] at c0 c1 c2 c3 c4 c5 c6 c7 c8
    generalize ols.length = nl at HCL c8
    generalize mk os = ms at HCL c5
    generalize mk of = mf at HCL c2
    generalize mk occ = mc at HCL c1
    generalize hal:allowsP L S cs { e:=oe,c:=occ,f:=of,k:=ok,n:=on,s:=os,p:=op,l:=ol,ls:=ols } = al at HCL HWk HAk
    clear hal
    cases al with
    | false =>
      have HE:Hid (r = (k:Int)):=HWk rfl
      clear HWk
      go_wp2_with fail
      refine Calls.mono HCL.out ?_
      rintro e w1 ⟨rfl,hb1⟩
      have HB1:Hid (Below w.heap.size w w1):=hb1
      clear hb1 c0 c1 c2 c3 c4 c5 c6 c7 c8
      go_wp2
      go_ret
      rw [HE.out]
      exact ⟨rfl,HB1.out⟩
    | true =>
      clear HWk
      go_wp2_with fail
      refine Calls.mono HCL.out ?_
      rintro e w1 ⟨rfl,hb1⟩
      have HB1:Hid (Below w.heap.size w w1):=hb1
      clear hb1 c0 c1 c2 c3 c4 c5 c6 c7 c8
      go_wp2
      go_roundw
      case rel => exact ⟨k + 1,by omega,by go_num,HB1.out,by first | exact HAk.out trivial | exact HAk.out rfl⟩
      case measure => simp [intOf];omega
  · have HE:Hid (r = -1):=HWn.out fun j h => HA.out j h (by rw [← HL.out] at h;omega)
    go_wp2
    go_ret
    rw [HE.out]
    exact ⟨rfl,HB.out⟩
theorem scene_sets {W:World} {B sg vc:Nat} {sc:List Ent} {sls:Nat → Nat → Value} {lvs:Nat → Nat → List Value} (h:SceneOwn W B (.slice (some ⟨sg,0,none⟩) sc.length vc) sc sls lvs) (j:Nat) (hj:j < sc.length):W.cell? ⟨sg,j * 7,none⟩ = some (.int .u64 ((setsOf sc).getD j 0:Int)) ∧ (setsOf sc).getD j 0 < 64:=by
 rw [setsOf_get sc j hj]
 refine ⟨?_,(h.ents j hj).1⟩
 have e0:=h.row.cellAt (j * 7) (by omega)
 rw [e0]
 have:=flat_get (fun j => entCells (entAt sc j).c (sls j)) 7 (fun _ => rfl) sc.length j 0 hj (by omega)
 exact this
theorem scene_form {W:World} {B vc:Nat} {sa:Option Addr} {sc:List Ent} {sls:Nat → Nat → Value} {lvs:Nat → Nat → List Value} (h:SceneOwn W B (.slice sa sc.length vc) sc sls lvs) (h1:1 ≤ sc.length):∃ sg,sa = some ⟨sg,0,none⟩ ∧ sc.length ≤ vc ∧ B ≤ sg ∧ sg < W.heap.size:=by
 rcases h.row.2 with ⟨_,q⟩ | ⟨g,cap,cur,q1,q2,q3,q4,_⟩
 · omega
 · injection q1 with q1 _ q5
   exact ⟨g,q1,by rw [q5];exact q4,q2,(Array.getElem?_eq_some_iff.1 q3).1⟩
set_option maxHeartbeats 1600000 in
set_option maxRecDepth 100000 in
theorem put_none {own:Nat → Nat} {b g lc N:Nat} {L:List CompS} {S:St} {w:World} (hW:WT w own b g lc N L S) (hG:Glob w) (text:List UInt8) (hl:text.length ≤ 2 ^ 40) (hsc:readTextL L text = none) (ov:Value) :
 Calls Tryz.prog 40 #[.pointer (some ⟨b,0,none⟩),.string (mk text),ov] w fun e w' => e = .returned (.tuple #[.slice none 0 0,.int .i64 10,.int .i64 0]) ∧ Below w.heap.size w w':=by
 obtain ⟨V,hV⟩:∃ V,V = w.alloc (.cells #[.pointer (some ⟨b,0,none⟩)] 28):=⟨_,rfl⟩
 have hB:Below w.heap.size w V:=by rw [hV];exact (Below.refl _ _).alloc (Nat.le_refl _) _
 have hW1:=hW.below hB
 have HO:Hid (∀ W,W = V → Calls Tryz.prog 47 #[.pointer (some ⟨b,0,none⟩)] W fun e w' => e = .returned (.pointer (some ⟨b,0,none⟩)) ∧ w' = V):=by
  rintro W rfl
  exact orEmpty_some b W
 have c0:V.cell? ⟨b,0,none⟩ = some (.slice (some ⟨g,0,none⟩) L.length lc):=hW1.c0
 have HF:Hid (Calls Tryz.prog 55 #[.string (mk text),.slice (some ⟨g,0,none⟩) L.length lc] V fun e w' => e = .returned (.tuple #[.slice none 0 0,.bool false]) ∧ Below w.heap.size w w'):=by
  refine (fromText_any b g L lc text V hl (hG.below hG.size hB hB.size) hW1.lay hW1.lcle).mono ?_
  rintro e w' ⟨⟨sc',sa,vc,sls,lvs,h,_⟩ | ⟨_,rfl⟩,hb⟩
  · rw [hsc] at h;cases h
  · exact ⟨rfl,hB.trans (hb.mono hB.size)⟩
 have HVe:Hid (_ = V):=hV.symm
 clear hW hW1 hG hB hsc hV
 generalize L.length = nL at HF c0
 generalize mk text = mt at HF ⊢
 go_enter Tryz.func40,Tryz.ntmps40
 go_wp2_with (first | (go_at_call 47;refine (HO.out _ HVe.out).mono ?_;rintro e w1 ⟨rfl,rfl⟩) | (go_at_call 55;refine HF.out.mono ?_;rintro e w2 ⟨rfl,hb2⟩))
 go_ret3
 exact ⟨rfl,hb2.alloc (by have:=hb2.size;omega) _⟩
set_option maxHeartbeats 1600000 in
set_option maxRecDepth 100000 in
theorem put_wrong {own:Nat → Nat} {b g lc N:Nat} {L:List CompS} {S:St} {w:World} (hW:WT w own b g lc N L S) (hG:Glob w) (text:List UInt8) (hl:text.length ≤ 2 ^ 40) (sc:List Ent) (hsc:readTextL L text = some sc) (h1:1 ≤ sc.length) (h20:sc.length ≤ 20) (og oc:Nat) (xs:List OvV) (hm2:xs.length ≤ 100) (hO:OversAt w og xs) (hwr:0 ≤ wrongN L S (setsOf sc) xs) :
 Calls Tryz.prog 40 #[.pointer (some ⟨b,0,none⟩),.string (mk text),.slice (some ⟨og,0,none⟩) xs.length oc] w fun e w' => e = .returned (.tuple #[.slice none 0 0,.int .i64 11,.int .i64 (wrongN L S (setsOf sc) xs)]) ∧ Below w.heap.size w w':=by
 obtain ⟨V,hV⟩:∃ V,V = w.alloc (.cells #[.pointer (some ⟨b,0,none⟩)] 28):=⟨_,rfl⟩
 have hB:Below w.heap.size w V:=by rw [hV];exact (Below.refl _ _).alloc (Nat.le_refl _) _
 have hs:V.heap.size = w.heap.size + 1:=by rw [hV];simp
 have hblkV:V.heap[w.heap.size]? = some (.cells #[.pointer (some ⟨b,0,none⟩)] 28 (0,0)):=by rw [hV];exact heap_alloc_at rfl _
 have hW1:=hW.below hB
 have HO:Hid (∀ W,W = V → Calls Tryz.prog 47 #[.pointer (some ⟨b,0,none⟩)] W fun e w' => e = .returned (.pointer (some ⟨b,0,none⟩)) ∧ w' = V):=by
  rintro W rfl
  exact orEmpty_some b W
 have c0:V.cell? ⟨b,0,none⟩ = some (.slice (some ⟨g,0,none⟩) L.length lc):=hW1.c0
 have HF:Hid (Calls Tryz.prog 55 #[.string (mk text),.slice (some ⟨g,0,none⟩) L.length lc] V fun e w' => ∃ sa vc,e = .returned (.tuple #[.slice sa sc.length vc,.bool true]) ∧ Hid (Below w.heap.size w w') ∧
  Hid (∀ W,Below w'.heap.size w' W → W.cell? ⟨w'.heap.size,0,none⟩ = some (.slice sa sc.length vc) → Calls Tryz.prog 76 #[.slice (some ⟨og,0,none⟩) xs.length oc,.func (.func 77) #[] #[.pointer (some ⟨w.heap.size,0,none⟩),.pointer (some ⟨w'.heap.size,0,none⟩)]] W fun e w'' => e = .returned (.int .i64 (wrongN L S (setsOf sc) xs)) ∧ Below w.heap.size w w'')):=by
  refine (fromText_any b g L lc text V hl (hG.below hG.size hB hB.size) hW1.lay hW1.lcle).mono ?_
  rintro e w' ⟨⟨sc',sa,vc,sls,lvs,h,rfl,hS⟩ | ⟨h,_⟩,hb⟩
  · rw [hsc] at h
    cases h
    obtain ⟨sg,rfl,hvc,hBs,hsgl⟩:=scene_form hS h1
    have hbw:Below w.heap.size w w':=hB.trans (hb.mono hB.size)
    refine ⟨_,vc,rfl,hbw,fun W hbW hcell => ?_⟩
    have hbW':Below w.heap.size w W:=hbw.trans (hbW.mono hbw.size)
    have z:=hb.size
    refine (index76 (hW.below hbW') w.heap.size w'.heap.size sg sc.length vc (setsOf sc) (by simp [setsOf]) hvc (by omega) (Nat.lt_of_lt_of_le hsgl hbW.size) (fun j hj => ⟨(hbW.cell (p:=⟨sg,_,none⟩) hsgl).trans (scene_sets hS j hj).1,(scene_sets hS j hj).2⟩) ?_ hcell og oc xs.length xs rfl hm2 (hO.below hbW')).mono fun _ _ ⟨q1,q2⟩ => ⟨q1,hbW'.trans (q2.mono hbW'.size)⟩
    rw [cell_row ((hbW.block _ (by omega)).trans ((hb.block _ (by omega)).trans hblkV))]
    rfl
  · rw [hsc] at h;cases h
 have HVe:Hid (_ = V):=hV.symm
 have hd:decide (0 ≤ wrongN L S (setsOf sc) xs) = true:=decide_eq_true hwr
 generalize wrongN L S (setsOf sc) xs = r at HF hd ⊢
 clear hW hW1 hG hB hsc hV hO hblkV hs hwr
 generalize L.length = nL at HF c0
 generalize mk text = mt at HF ⊢
 generalize xs.length = m at HF hm2 ⊢
 generalize sc.length = n at HF h1 h20
 have hmf:∀ (fn:Fn) (first cap:Array Value) (w:World),(Instr.makeFunc fn first cap).run Tryz.prog w = .ok (.func fn first cap) w:=fun _ _ _ _ => rfl
 go_enter Tryz.func40,Tryz.ntmps40
 go_wp2_with (first | (go_at_call 47;refine (HO.out _ HVe.out).mono ?_;rintro e w1 ⟨rfl,rfl⟩) | (go_at_call 55;refine HF.out.mono ?_;rintro e w2 ⟨sa,vc,rfl,HB2,HIx⟩) | (go_at_call 76;refine (HIx.out _ ((Below.refl _ _).alloc (Nat.le_refl _) _) (by simp)).mono ?_;rintro e w3 ⟨rfl,hb3⟩))
 go_ret3
 exact ⟨rfl,hb3⟩
def stepO (L:List CompS) (hs:List (Int × Int)) (S:St) (o:Ov):St :=
 if setE L S (hs.getD o.e.toNat (0,0)).1 (hs.getD o.e.toNat (0,0)).2 o.c o.f o.k o.n o.s.length o.p o.l o.ls.length = 0 then S.set L (hs.getD o.e.toNat (0,0)).1 (hs.getD o.e.toNat (0,0)).2 o.c o.f ⟨o.n,o.s,o.p,o.l,o.ls⟩ else S
def putK (L:List CompS) (hs:List (Int × Int)) (S:St) (xs:List OvV):Nat → St
 | 0 => S
 | k + 1 => stepO L hs (putK L hs S xs k) ((xs.map OvV.o).getD k ⟨0,[],[],0,0,[],0,0,[]⟩)
theorem stepO_lv (L:List CompS) (hs:List (Int × Int)) (S:St) (o:Ov) (lv lv':Nat → Nat → Nat → Value):({ stepO L hs { S with lv:=lv } o with lv:=lv' }:St) = { stepO L hs S o with lv:=lv' }:=by
 unfold stepO
 have e:setE L { S with lv:=lv } (hs.getD o.e.toNat (0,0)).1 (hs.getD o.e.toNat (0,0)).2 o.c o.f o.k o.n o.s.length o.p o.l o.ls.length = setE L S (hs.getD o.e.toNat (0,0)).1 (hs.getD o.e.toNat (0,0)).2 o.c o.f o.k o.n o.s.length o.p o.l o.ls.length:=rfl
 rw [e]
 split <;> rfl
def PutInv (w5:World) (own5:Nat → Nat) (b g lc N:Nat) (L:List CompS) (hs:List (Int × Int)) (S:St) (xs:List OvV) (k:Nat) (wr:World):Prop :=
 ∃ own' lv',Stp w5 own5 wr own' ∧ WT wr own' b g lc N L { putK L hs S xs k with lv:=lv' }
theorem PutInv.next {w5 wr W:World} {own5:Nat → Nat} {b g lc N:Nat} {L:List CompS} {hs:List (Int × Int)} {S:St} {xs:List OvV} {k:Nat} (h:PutInv w5 own5 b g lc N L hs S xs k wr) (hb:Below wr.heap.size wr W) (hk:k < xs.length) (hnil:xs[k].o.ls = []) (hsl:xs[k].o.s.length ≤ 1000) :
 Calls Tryz.prog 38 #[.pointer (some ⟨b,0,none⟩),.agg #[.int .i64 (hs.getD xs[k].o.e.toNat (0,0)).1,.int .i64 (hs.getD xs[k].o.e.toNat (0,0)).2],.string (mk xs[k].o.c),.string (mk xs[k].o.f),.agg #[.int .i64 xs[k].o.k,.int .i64 xs[k].o.n,.string (mk xs[k].o.s),.int .i64 xs[k].o.p,.int .i64 xs[k].o.l,.slice none 0 0]] W fun e w' => (∃ er,e = .returned (.int .i64 er)) ∧ PutInv w5 own5 b g lc N L hs S xs (k + 1) w' ∧ ∀ j,j < W.heap.size → (∀ own',Stp w5 own5 wr own' → j < wr.heap.size → own' j = 0) → w'.heap[j]? = W.heap[j]?:=by
 obtain ⟨own',lv',h1,h2⟩:=h
 have hW:=h2.below hb
 have:=set_w hW (hs.getD xs[k].o.e.toNat (0,0)).1 (hs.getD xs[k].o.e.toNat (0,0)).2 xs[k].o.c xs[k].o.f xs[k].o.k xs[k].o.n xs[k].o.s xs[k].o.p xs[k].o.l none 0 [] hsl (by simp) (Or.inl ⟨rfl,rfl⟩)
 refine this.mono ?_
 rintro e w' ⟨rfl,own2,lv2,q1,q2⟩
 have eg:(xs.map OvV.o).getD k ⟨0,[],[],0,0,[],0,0,[]⟩ = xs[k].o:=by simp [List.getD,hk]
 refine ⟨⟨_,rfl⟩,⟨own2,lv2,(h1.trans (Stp.below hb)).trans q1,?_⟩,fun j hj hz => q1.1.block j hj ?_⟩
 · show WT w' own2 b g lc N L { stepO L hs (putK L hs S xs k) ((xs.map OvV.o).getD k ⟨0,[],[],0,0,[],0,0,[]⟩) with lv:=lv2 }
   rw [eg,← stepO_lv L hs (putK L hs S xs k) xs[k].o lv' lv2]
   unfold stepO
   rw [hnil]
   exact q2
 · have:own' j = 0:=by
    by_cases e:j < wr.heap.size
    · exact hz own' h1 e
    · exact h2.out j (by omega)
   unfold Tur
   omega
def PutEnds (w:World) (own:Nat → Nat) (b g lc N:Nat) (L:List CompS) (S:St) (sc:List Ent) (xs:List OvV) (e:Ending) (w':World):Prop :=
 ∃ hg hc,e = .returned (.tuple #[.slice (some ⟨hg,0,none⟩) sc.length hc,.int .i64 0,.int .i64 0]) ∧ w'.ownsRow w.heap.size 46 2 (.slice (some ⟨hg,0,none⟩) sc.length hc) sc.length (eCells (handsN S (setsOf sc) sc.length)) ∧ w.heap.size ≤ hg ∧
   ∃ own' lv',Stp w own w' own' ∧ own' hg = 0 ∧ WT w' own' b g lc (N + sc.length) L { putK L (handsN S (setsOf sc) sc.length) { spawnN S (setsOf sc) sc.length with vals:=fillN L S (setsOf sc) sc (handsN S (setsOf sc) sc.length) (spawnN S (setsOf sc) sc.length).vals sc.length } xs xs.length with lv:=lv' }
theorem putK_lv (L:List CompS) (hs:List (Int × Int)) (S:St) (xs:List OvV) (lv lv':Nat → Nat → Nat → Value):∀ k,({ putK L hs { S with lv:=lv } xs k with lv:=lv' }:St) = { putK L hs S xs k with lv:=lv' }
 | 0 => rfl
 | k + 1 => by
   have ih:=putK_lv L hs S xs lv (fun _ _ _ => .slice none 0 0) k
   show ({ stepO L hs (putK L hs { S with lv:=lv } xs k) _ with lv:=lv' }:St) = { stepO L hs (putK L hs S xs k) _ with lv:=lv' }
   rw [← stepO_lv L hs (putK L hs { S with lv:=lv } xs k) _ (fun _ _ _ => .slice none 0 0) lv',ih,stepO_lv]
set_option maxHeartbeats 1600000 in
set_option maxRecDepth 100000 in
theorem put_ok {own:Nat → Nat} {b g lc N:Nat} {L:List CompS} {S:St} {w:World} (hW:WT w own b g lc N L S) (hG:Glob w) (text:List UInt8) (hl:text.length ≤ 2 ^ 40) (sc:List Ent) (hsc:readTextL L text = some sc) (h1:1 ≤ sc.length) (h20:sc.length ≤ 20) (hroom:sc.length ≤ roomN S.bg S.tk 20) (hN:N + sc.length ≤ 1000) (hN1:1 ≤ N) (hfit:∀ j,j < sc.length → EntFit L sc.length (entAt sc j)) (og oc:Nat) (xs:List OvV) (hm2:xs.length ≤ 100) (hO:OversAt w og xs) (hog:own og = 0)
 (hov:∀ j (h:j < xs.length),(xs[j].va = none ∧ xs[j].o.ls = [] ∧ xs[j].vc = 0) ∧ xs[j].o.s.length ≤ 1000 ∧ 0 ≤ xs[j].o.e ∧ xs[j].o.e < sc.length) (hwr:wrongN L S (setsOf sc) xs = -1) :
 Calls Tryz.prog 40 #[.pointer (some ⟨b,0,none⟩),.string (mk text),.slice (some ⟨og,0,none⟩) xs.length oc] w (PutEnds w own b g lc N L S sc xs):=by
 obtain ⟨V,hV⟩:∃ V,V = w.alloc (.cells #[.pointer (some ⟨b,0,none⟩)] 28):=⟨_,rfl⟩
 have hB:Below w.heap.size w V:=by rw [hV];exact (Below.refl _ _).alloc (Nat.le_refl _) _
 have hs:V.heap.size = w.heap.size + 1:=by rw [hV];simp
 have hblkV:V.heap[w.heap.size]? = some (.cells #[.pointer (some ⟨b,0,none⟩)] 28 (0,0)):=by rw [hV];exact heap_alloc_at rfl _
 have hW1:=hW.below hB
 have HOe:Hid (∀ W,W = V → Calls Tryz.prog 47 #[.pointer (some ⟨b,0,none⟩)] W fun e w' => e = .returned (.pointer (some ⟨b,0,none⟩)) ∧ w' = V):=by
  rintro W rfl
  exact orEmpty_some b W
 have c0:V.cell? ⟨b,0,none⟩ = some (.slice (some ⟨g,0,none⟩) L.length lc):=hW1.c0
 have HF:Hid (Calls Tryz.prog 55 #[.string (mk text),.slice (some ⟨g,0,none⟩) L.length lc] V fun e w' => ∃ sa vc,e = .returned (.tuple #[.slice sa sc.length vc,.bool true]) ∧ w.heap.size < w'.heap.size ∧
  Hid (∀ W,Below w'.heap.size w' W → W.cell? ⟨w'.heap.size,0,none⟩ = some (.slice sa sc.length vc) → w'.heap.size < W.heap.size → Calls Tryz.prog 76 #[.slice (some ⟨og,0,none⟩) xs.length oc,.func (.func 77) #[] #[.pointer (some ⟨w.heap.size,0,none⟩),.pointer (some ⟨w'.heap.size,0,none⟩)]] W fun e w'' => e = .returned (.int .i64 (-1)) ∧ (w''.cell? ⟨w.heap.size,0,none⟩ = some (.pointer (some ⟨b,0,none⟩)) ∧ w''.cell? ⟨w'.heap.size,0,none⟩ = some (.slice sa sc.length vc)) ∧
   Hid (Calls Tryz.prog 56 #[.pointer (some ⟨b,0,none⟩),.slice sa sc.length vc] w'' fun e w5 => ∃ hg hc,e = .returned (.tuple #[.slice (some ⟨hg,0,none⟩) sc.length hc,.int .i64 0]) ∧ sc.length ≤ hc ∧ ∃ own5 lv5,Hid (Stp w own w5 own5 ∧ own5 hg = 0 ∧ w5.ownsRow w.heap.size 46 2 (.slice (some ⟨hg,0,none⟩) sc.length hc) sc.length (eCells (handsN S (setsOf sc) sc.length)) ∧ w.heap.size ≤ hg ∧ w5.cell? ⟨w.heap.size,0,none⟩ = some (.pointer (some ⟨b,0,none⟩)) ∧ own5 w.heap.size = 0 ∧ WT w5 own5 b g lc (N + sc.length) L { spawnN S (setsOf sc) sc.length with vals:=fillN L S (setsOf sc) sc (handsN S (setsOf sc) sc.length) (spawnN S (setsOf sc) sc.length).vals sc.length,lv:=lv5 })))):=by
  refine (fromText_any b g L lc text V hl (hG.below hG.size hB hB.size) hW1.lay hW1.lcle).mono ?_
  rintro e w' ⟨⟨sc',sa,vc,sls,lvs,h,rfl,hS⟩ | ⟨h,_⟩,hb⟩
  · rw [hsc] at h
    cases h
    obtain ⟨sg,rfl,hvc,hBs,hsgl⟩:=scene_form hS h1
    have hbw:Below w.heap.size w w':=hB.trans (hb.mono hB.size)
    have z:=hb.size
    refine ⟨_,vc,rfl,by omega,fun W hbW hcell hWl => ?_⟩
    have hbW':Below w.heap.size w W:=hbw.trans (hbW.mono hbw.size)
    have hbx:W.cell? ⟨w.heap.size,0,none⟩ = some (.pointer (some ⟨b,0,none⟩)):=by
     rw [cell_row ((hbW.block _ (by omega)).trans ((hb.block _ (by omega)).trans hblkV))]
     rfl
    have h76:=index76 (hW.below hbW') w.heap.size w'.heap.size sg sc.length vc (setsOf sc) (by simp [setsOf]) hvc (by omega) (Nat.lt_of_lt_of_le hsgl hbW.size) (fun j hj => ⟨(hbW.cell (p:=⟨sg,_,none⟩) hsgl).trans (scene_sets hS j hj).1,(scene_sets hS j hj).2⟩) hbx hcell og oc xs.length xs rfl hm2 (hO.below hbW')
    rw [hwr] at h76
    refine h76.mono ?_
    rintro e w'' ⟨rfl,q2⟩
    have hb'':Below w.heap.size w w'':=hbW'.trans (q2.mono hbW'.size)
    have zW:=hbW.size
    have hbx2:w''.cell? ⟨w.heap.size,0,none⟩ = some (.pointer (some ⟨b,0,none⟩)):=(q2.cell (p:=⟨w.heap.size,0,none⟩) (by show w.heap.size < W.heap.size;omega)).trans hbx
    refine ⟨rfl,⟨hbx2,(q2.cell (p:=⟨w'.heap.size,0,none⟩) hWl).trans hcell⟩,?_⟩
    have hS2:SceneOwn w'' V.heap.size (.slice (some ⟨sg,0,none⟩) sc.length vc) sc sls lvs:=hS.keep fun i h3 h4 => (q2.block i (by omega)).trans (hbW.block i h4)
    refine (settle_wt own b g lc N V.heap.size vc (some ⟨sg,0,none⟩) L S sc sls lvs w'' (hW.below hb'') hS2 (fun j hj => hW.out j (by omega)) hroom hN hN1 hfit).mono ?_
    rintro e w5 ⟨v',rfl,s1,s2,own5,lv5,s3,s4,s5⟩
    have z'':=hb''.size
    rcases s2.2 with ⟨_,q⟩ | ⟨hg,hc,cur,rfl,q3,q4,q5,_⟩
    · omega
    · have hosz:own w.heap.size = 0:=hW.out _ (Nat.le_refl _)
      have zq:=q2.size
      have hsl:w.heap.size < w''.heap.size:=by omega
      refine ⟨hg,hc,rfl,q5,own5,lv5,⟨(Turns.ofBelow _ hb'').trans' s1,fun j hj => s3 j (by omega)⟩,s4 hg rfl,own_base s2 (by omega),by omega,?_,(s3 _ hsl).trans hosz,s5⟩
      exact (World.cell?_of_block (a:=⟨w.heap.size,0,none⟩) (s1.block w.heap.size hsl (by unfold Tur;omega))).trans hbx2
  · rw [hsc] at h;cases h
 have HVe:Hid (_ = V):=hV.symm
 obtain ⟨hs0,hhs⟩:∃ hs0,hs0 = handsN S (setsOf sc) sc.length:=⟨_,rfl⟩
 have hhl:hs0.length = sc.length:=by rw [hhs];exact handsN_len _ _ _
 obtain ⟨S0,hS0⟩:∃ S0:St,S0 = { spawnN S (setsOf sc) sc.length with vals:=fillN L S (setsOf sc) sc (handsN S (setsOf sc) sc.length) (spawnN S (setsOf sc) sc.length).vals sc.length }:=⟨_,rfl⟩
 have HEn:Hid (∀ hg hc w5 own5 wr,Stp w own w5 own5 → own5 hg = 0 → w5.ownsRow w.heap.size 46 2 (.slice (some ⟨hg,0,none⟩) sc.length hc) sc.length (eCells hs0) → w.heap.size ≤ hg → PutInv w5 own5 b g lc (N + sc.length) L hs0 S0 xs xs.length wr → PutEnds w own b g lc N L S sc xs (.returned (.tuple #[.slice (some ⟨hg,0,none⟩) sc.length hc,.int .i64 0,.int .i64 0])) wr):=by
  intro hg hc w5 own5 wr a1 a2 a3 a4 ⟨own',lv',a5,a6⟩
  have hgl:hg < w5.heap.size:=(a3.lt hg rfl).2
  have a7:wr.ownsRow w.heap.size 46 2 (.slice (some ⟨hg,0,none⟩) sc.length hc) sc.length (eCells hs0):=own_turn a3 fun j hj hjl => a5.1.block j hjl (by
   have e:hg = j:=by simpa [Value.ownBlock] using hj
   subst e
   unfold Tur
   omega)
  rw [hhs] at a7
  rw [hS0,hhs] at a6
  exact ⟨hg,hc,rfl,a7,a4,own',lv',a1.trans a5,(a5.2 hg hgl).trans a2,a6⟩
 have HRd:Hid (∀ hg hc w5 own5,Stp w own w5 own5 → own5 hg = 0 → w5.ownsRow w.heap.size 46 2 (.slice (some ⟨hg,0,none⟩) sc.length hc) sc.length (eCells hs0) → w5.cell? ⟨w.heap.size,0,none⟩ = some (.pointer (some ⟨b,0,none⟩)) → own5 w.heap.size = 0 → ∀ k wr,(hk:k < xs.length) → PutInv w5 own5 b g lc (N + sc.length) L hs0 S0 xs k wr → ∃ (j:Nat) (hp hq:Int),j < sc.length ∧ xs[k].o.e = (j:Int) ∧ (wr.cell? ⟨og,k * 9,none⟩ = some (.int .i64 (j:Int)) ∧ wr.cell? ⟨og,k * 9 + 1,none⟩ = some (.string (mk xs[k].o.c)) ∧ wr.cell? ⟨og,k * 9 + 2,none⟩ = some (.string (mk xs[k].o.f)) ∧ wr.cell? ⟨og,k * 9 + 3,none⟩ = some (.int .i64 xs[k].o.k) ∧ wr.cell? ⟨og,k * 9 + 4,none⟩ = some (.int .i64 xs[k].o.n) ∧ wr.cell? ⟨og,k * 9 + 5,none⟩ = some (.string (mk xs[k].o.s)) ∧ wr.cell? ⟨og,k * 9 + 6,none⟩ = some (.int .i64 xs[k].o.p) ∧ wr.cell? ⟨og,k * 9 + 7,none⟩ = some (.int .i64 xs[k].o.l) ∧ wr.cell? ⟨og,k * 9 + 8,none⟩ = some (.slice none 0 0)) ∧
  (w.heap.size < wr.heap.size ∧ hg < wr.heap.size ∧ og < wr.heap.size ∧ wr.cell? ⟨hg,j * 2,none⟩ = some (.int .i64 hp) ∧ wr.cell? ⟨hg,j * 2 + 1,none⟩ = some (.int .i64 hq) ∧ wr.cell? ⟨w.heap.size,0,none⟩ = some (.pointer (some ⟨b,0,none⟩))) ∧
  ∀ W,Below wr.heap.size wr W → wr.heap.size < W.heap.size → Calls Tryz.prog 38 #[.pointer (some ⟨b,0,none⟩),.agg #[.int .i64 hp,.int .i64 hq],.string (mk xs[k].o.c),.string (mk xs[k].o.f),.agg #[.int .i64 xs[k].o.k,.int .i64 xs[k].o.n,.string (mk xs[k].o.s),.int .i64 xs[k].o.p,.int .i64 xs[k].o.l,.slice none 0 0]] W fun e w' => ∃ er,e = .returned (.int .i64 er) ∧ Hid (PutInv w5 own5 b g lc (N + sc.length) L hs0 S0 xs (k + 1) w') ∧ Hid (w'.heap[wr.heap.size]? = W.heap[wr.heap.size]? ∧ w'.heap[hg]? = W.heap[hg]? ∧ w'.heap[w.heap.size]? = W.heap[w.heap.size]?)):=by
  intro hg hc w5 own5 a1 a2 a3 a4 a5 k wr hk hI
  obtain ⟨⟨v1,v2,v3⟩,v4,v5,v6⟩:=hov k hk
  obtain ⟨own',lv',b1,b2⟩:=hI
  have hgl:hg < w5.heap.size:=(a3.lt hg rfl).2
  have z5:=a1.1.size
  have zr:=b1.1.size
  have hogl:=hO.1
  have hw5:w.heap.size < w5.heap.size:=by
   rcases Nat.lt_or_ge w.heap.size w5.heap.size with q | q
   · exact q
   · have:w5.heap[w.heap.size]? = none:=Array.getElem?_eq_none q
     unfold World.cell? at a4
     simp [this] at a4
  have kp:∀ j,j < w5.heap.size → own5 j = 0 → wr.heap[j]? = w5.heap[j]?:=fun j hj h0 => b1.1.block j hj (by unfold Tur;omega)
  have ego:wr.heap[og]? = w.heap[og]?:=(kp og (by omega) ((a1.2 og hogl).trans hog)).trans (a1.1.block og hogl (by unfold Tur;omega))
  have hc9:∀ o,o < 9 → wr.cell? ⟨og,k * 9 + o,none⟩ = (ovCells xs[k].o (mk xs[k].o.s) (mk xs[k].o.c) (mk xs[k].o.f) xs[k].va xs[k].o.ls.length xs[k].vc)[o]?:=fun o ho => (World.cell?_of_block (a:=⟨og,_,none⟩) ego).trans (hO.2 k hk o ho)
  have hj:xs[k].o.e = (xs[k].o.e.toNat:Int):=by omega
  have hjs:xs[k].o.e.toNat < sc.length:=by omega
  have hjh:xs[k].o.e.toNat < hs0.length:=by omega
  have hgd:hs0.getD xs[k].o.e.toNat (0,0) = hs0[xs[k].o.e.toNat]:=by simp [List.getD,hjh]
  have hE:=fun o (ho:o < 2) => a3.cellAt (xs[k].o.e.toNat * 2 + o) (by omega)
  refine ⟨xs[k].o.e.toNat,(hs0.getD xs[k].o.e.toNat (0,0)).1,(hs0.getD xs[k].o.e.toNat (0,0)).2,hjs,hj,⟨?_,?_,?_,?_,?_,?_,?_,?_,?_⟩,⟨by omega,by omega,by omega,?_,?_,?_⟩,fun W hb hWl => ?_⟩
  · rw [← hj];exact hc9 0 (by omega)
  · exact hc9 1 (by omega)
  · exact hc9 2 (by omega)
  · exact hc9 3 (by omega)
  · exact hc9 4 (by omega)
  · exact hc9 5 (by omega)
  · exact hc9 6 (by omega)
  · exact hc9 7 (by omega)
  · have:=hc9 8 (by omega)
    rw [v1,v2,v3] at this
    exact this
  · rw [World.cell?_of_block (a:=⟨hg,_,none⟩) (kp hg hgl a2),hgd]
    have:=hE 0 (by omega)
    rw [Nat.add_zero] at this
    rw [this]
    exact (flat2_get (fun z:Int × Int => Value.int .i64 z.1) (fun z => Value.int .i64 z.2) hs0 _ hjh).1
  · rw [World.cell?_of_block (a:=⟨hg,_,none⟩) (kp hg hgl a2),hgd,hE 1 (by omega)]
    exact (flat2_get (fun z:Int × Int => Value.int .i64 z.1) (fun z => Value.int .i64 z.2) hs0 _ hjh).2
  · exact (World.cell?_of_block (a:=⟨w.heap.size,0,none⟩) (kp w.heap.size hw5 a5)).trans a4
  · refine (PutInv.next ⟨own',lv',b1,b2⟩ hb hk v2 v4).mono ?_
    rintro e w' ⟨⟨er,rfl⟩,d1,d2⟩
    have zb:=hb.size
    exact ⟨er,rfl,d1,d2 _ hWl (fun _ _ h => by omega),d2 hg (by omega) (fun o h _ => (h.2 hg hgl).trans a2),d2 w.heap.size (by omega) (fun o h _ => (h.2 _ hw5).trans a5)⟩
 clear hW hW1 hG hB hsc hV hO hblkV hs hwr hov hfit hroom hN hN1 hog hhl
 generalize hSE:PutEnds w own b g lc N L S sc xs = PE at HEn ⊢
 clear hSE
 obtain ⟨m,hm⟩:∃ m,m = xs.length:=⟨_,rfl⟩
 have HM:Hid (m = xs.length):=hm
 rw [← hm] at HF hm2 ⊢
 have HS0:Hid (S0 = { spawnN S (setsOf sc) sc.length with vals:=fillN L S (setsOf sc) sc (handsN S (setsOf sc) sc.length) (spawnN S (setsOf sc) sc.length).vals sc.length }):=hS0
 have HHs:Hid (hs0 = handsN S (setsOf sc) sc.length):=hhs
 obtain ⟨n,hn⟩:∃ n,n = sc.length:=⟨_,rfl⟩
 have HNn:Hid (n = sc.length):=hn
 rw [← hn] at HF h1 h20 HEn HRd HS0 HHs
 clear hn hm hS0 hhs
 generalize L.length = nL at HF c0
 generalize mk text = mt at HF ⊢
 have hmf:∀ (fn:Fn) (first cap:Array Value) (w:World),(Instr.makeFunc fn first cap).run Tryz.prog w = .ok (.func fn first cap) w:=fun _ _ _ _ => rfl
 go_enter Tryz.func40,Tryz.ntmps40
 go_wp2_with (first | (go_at_call 47;refine (HOe.out _ HVe.out).mono ?_;rintro e w1 ⟨rfl,rfl⟩) | (go_at_call 55;refine HF.out.mono ?_;rintro e w2 ⟨sa,vc,rfl,hz2,HIx⟩) | (go_at_call 76;refine (HIx.out _ ((Below.refl _ _).alloc (Nat.le_refl _) _) (by simp) (by simp)).mono ?_;rintro e w3 ⟨rfl,⟨x0,x1⟩,HSt⟩) | (go_at_call 56;refine HSt.out.mono ?_;rintro e w5 ⟨hg,hc,rfl,hhc,own5,lv5,H5⟩;have HI0:Hid (PutInv w5 own5 b g lc (N + n) L hs0 S0 xs 0 w5):=(by obtain ⟨_,_,_,_,_,_,q⟩:=H5.out;exact ⟨own5,lv5,Stp.below (Below.refl _ _),by rw [HS0.out];exact q⟩)))
 clear c0 x0 x1
 go_loopw [45] (fun t wr => ∃ k:Nat,k ≤ m ∧ t = .int .i64 k ∧ Hid (PutInv w5 own5 b g lc (N + n) L hs0 S0 xs k wr)) (fun t _ => m - (intOf t).toNat)
 case atStart => exact ⟨0,by omega,rfl,HI0⟩
 case round =>
  obtain ⟨k,hk,rfl,HI⟩:=hrel
  by_cases hlt:k < m
  · have hkx:k < xs.length:=by rw [← HM.out];exact hlt
    obtain ⟨p1,p2,p3,p4,p5,p6,p7⟩:=H5.out
    obtain ⟨j,hp,hq,hjn,hej,⟨c0,c1,c2,c3,c4,c5,c6,c7,c8⟩,⟨z1,z2,z3,y0,y1,y2⟩,hC⟩:=HRd.out hg hc w5 own5 p1 p2 (by rw [HHs.out];exact p3) p5 p6 k wr hkx HI.out
    have HC:Hid _:=hC
    clear p1 p2 p3 p4 p5 p6 p7 hC hej
    generalize mk xs[k].o.s = ms at c5 HC
    generalize mk xs[k].o.f = mf at c2 HC
    generalize mk xs[k].o.c = mc at c1 HC
    generalize xs[k].o.k = ok at c3 HC
    generalize xs[k].o.n = on at c4 HC
    generalize xs[k].o.p = op at c6 HC
    generalize xs[k].o.l = ol at c7 HC
    have hjI:(j:Int) < (n:Int):=by omega
    have e1:w.heap.size ≠ wr.heap.size:=by omega
    have e2:hg ≠ wr.heap.size:=by omega
    have e3:og ≠ wr.heap.size:=by omega
    have HBx:Hid (∀ W:World,W.heap[wr.heap.size]? = some (.cells #[.int .i64 (j:Int),.string mc,.string mf,.int .i64 ok,.int .i64 on,.string ms,.int .i64 op,.int .i64 ol,.slice none 0 0] 76 (0,0)) → W.heap[hg]? = wr.heap[hg]? → W.heap[w.heap.size]? = wr.heap[w.heap.size]? → (W.cell? ⟨w.heap.size,0,none⟩ = some (.pointer (some ⟨b,0,none⟩)) ∧ W.cell? ⟨hg,j * 2,none⟩ = some (.int .i64 hp) ∧ W.cell? ⟨hg,j * 2 + 1,none⟩ = some (.int .i64 hq) ∧ W.cell? ⟨wr.heap.size,0,none⟩ = some (.int .i64 (j:Int)) ∧ W.cell? ⟨wr.heap.size,1,none⟩ = some (.string mc) ∧ W.cell? ⟨wr.heap.size,2,none⟩ = some (.string mf) ∧ W.cell? ⟨wr.heap.size,3,none⟩ = some (.int .i64 ok) ∧ W.cell? ⟨wr.heap.size,4,none⟩ = some (.int .i64 on) ∧ W.cell? ⟨wr.heap.size,5,none⟩ = some (.string ms) ∧ W.cell? ⟨wr.heap.size,6,none⟩ = some (.int .i64 op) ∧ W.cell? ⟨wr.heap.size,7,none⟩ = some (.int .i64 ol) ∧ W.cell? ⟨wr.heap.size,8,none⟩ = some (.slice none 0 0))):=fun W q1 q2 q3 =>
     ⟨(World.cell?_of_block (a:=⟨w.heap.size,0,none⟩) q3).trans y2,(World.cell?_of_block (a:=⟨hg,_,none⟩) q2).trans y0,(World.cell?_of_block (a:=⟨hg,_,none⟩) q2).trans y1,by rw [cell_row q1];rfl,by rw [cell_row q1];rfl,by rw [cell_row q1];rfl,by rw [cell_row q1];rfl,by rw [cell_row q1];rfl,by rw [cell_row q1];rfl,by rw [cell_row q1];rfl,by rw [cell_row q1];rfl,by rw [cell_row q1];rfl⟩
    have HA:Hid (Below wr.heap.size wr (wr.alloc (.cells #[.int .i64 (j:Int),.string mc,.string mf,.int .i64 ok,.int .i64 on,.string ms,.int .i64 op,.int .i64 ol,.slice none 0 0] 76))):=(Below.refl _ _).alloc (Nat.le_refl _) _
    have HS6:Hid (∀ W:World,W.heap = (wr.alloc (.cells #[.int .i64 (j:Int),.string mc,.string mf,.int .i64 ok,.int .i64 on,.string ms,.int .i64 op,.int .i64 ol,.slice none 0 0] 76)).heap → (W.cell? ⟨w.heap.size,0,none⟩ = some (.pointer (some ⟨b,0,none⟩)) ∧ W.cell? ⟨hg,j * 2,none⟩ = some (.int .i64 hp) ∧ W.cell? ⟨hg,j * 2 + 1,none⟩ = some (.int .i64 hq) ∧ W.cell? ⟨wr.heap.size,0,none⟩ = some (.int .i64 (j:Int)) ∧ W.cell? ⟨wr.heap.size,1,none⟩ = some (.string mc) ∧ W.cell? ⟨wr.heap.size,2,none⟩ = some (.string mf) ∧ W.cell? ⟨wr.heap.size,3,none⟩ = some (.int .i64 ok) ∧ W.cell? ⟨wr.heap.size,4,none⟩ = some (.int .i64 on) ∧ W.cell? ⟨wr.heap.size,5,none⟩ = some (.string ms) ∧ W.cell? ⟨wr.heap.size,6,none⟩ = some (.int .i64 op) ∧ W.cell? ⟨wr.heap.size,7,none⟩ = some (.int .i64 ol) ∧ W.cell? ⟨wr.heap.size,8,none⟩ = some (.slice none 0 0))):=fun W hWe => HBx.out W (by rw [hWe];exact heap_alloc_at rfl _) (by rw [hWe];exact HA.out.block _ z2) (by rw [hWe];exact HA.out.block _ z1)
    clear y0 y1 y2
    go_wp2_with fail
    clear c0 c1 c2 c3 c4 c5 c6 c7 c8
    go_region_held3 (fun W => W.cell? ⟨w.heap.size,0,none⟩ = some (.pointer (some ⟨b,0,none⟩)) ∧ W.cell? ⟨hg,j * 2,none⟩ = some (.int .i64 hp) ∧ W.cell? ⟨hg,j * 2 + 1,none⟩ = some (.int .i64 hq) ∧ W.cell? ⟨wr.heap.size,0,none⟩ = some (.int .i64 (j:Int)) ∧ W.cell? ⟨wr.heap.size,1,none⟩ = some (.string mc) ∧ W.cell? ⟨wr.heap.size,2,none⟩ = some (.string mf) ∧ W.cell? ⟨wr.heap.size,3,none⟩ = some (.int .i64 ok) ∧ W.cell? ⟨wr.heap.size,4,none⟩ = some (.int .i64 on) ∧ W.cell? ⟨wr.heap.size,5,none⟩ = some (.string ms) ∧ W.cell? ⟨wr.heap.size,6,none⟩ = some (.int .i64 op) ∧ W.cell? ⟨wr.heap.size,7,none⟩ = some (.int .i64 ol) ∧ W.cell? ⟨wr.heap.size,8,none⟩ = some (.slice none 0 0)) ((first | exact HS7.out | exact HS6.out _ rfl)) ((go_at_call 38;refine (HC.out _ HA.out.drew (by simp)).mono ?_;rintro e w7 ⟨er,rfl,HI7,HK7⟩;have HS7:Hid (w7.cell? ⟨w.heap.size,0,none⟩ = some (.pointer (some ⟨b,0,none⟩)) ∧ w7.cell? ⟨hg,j * 2,none⟩ = some (.int .i64 hp) ∧ w7.cell? ⟨hg,j * 2 + 1,none⟩ = some (.int .i64 hq) ∧ w7.cell? ⟨wr.heap.size,0,none⟩ = some (.int .i64 (j:Int)) ∧ w7.cell? ⟨wr.heap.size,1,none⟩ = some (.string mc) ∧ w7.cell? ⟨wr.heap.size,2,none⟩ = some (.string mf) ∧ w7.cell? ⟨wr.heap.size,3,none⟩ = some (.int .i64 ok) ∧ w7.cell? ⟨wr.heap.size,4,none⟩ = some (.int .i64 on) ∧ w7.cell? ⟨wr.heap.size,5,none⟩ = some (.string ms) ∧ w7.cell? ⟨wr.heap.size,6,none⟩ = some (.int .i64 op) ∧ w7.cell? ⟨wr.heap.size,7,none⟩ = some (.int .i64 ol) ∧ w7.cell? ⟨wr.heap.size,8,none⟩ = some (.slice none 0 0)):=HBx.out w7 (HK7.out.1.trans (heap_alloc_at rfl _)) (HK7.out.2.1.trans (HA.out.block _ z2)) (HK7.out.2.2.trans (HA.out.block _ z1))))
    go_wp2_with fail
    go_roundw
    case rel => exact ⟨k + 1,by omega,by go_num,HI7⟩
    case measure => simp [intOf];omega
  · obtain rfl:k = m:=by omega
    obtain ⟨p1,p2,p3,p4,p5,p6,p7⟩:=H5.out
    have HEE:Hid (PE (.returned (.tuple #[.slice (some ⟨hg,0,none⟩) n hc,.int .i64 0,.int .i64 0])) wr):=HEn.out hg hc w5 own5 wr p1 p2 (by rw [HHs.out];exact p3) p4 (by rw [← HM.out];exact HI.out)
    clear p1 p2 p3 p4 p5 p6 p7
    go_wp2_with fail
    go_ret3
    exact HEE.out
def unlisted (l:Array Bool):Nat:=(l.toList.filter fun b => !b).length
theorem unl_list:∀ (L:List Bool) (i:Nat),L[i]? = some false → ((L.set i true).filter fun b => !b).length + 1 = (L.filter fun b => !b).length
 | [],i,h => by simp at h
 | a :: L,0,h => by
   have ha:a = false:=by simpa using h
   subst ha
   simp
 | a :: L,i + 1,h => by
   have:=unl_list L i (by simpa using h)
   rw [List.set_cons_succ]
   cases a <;> simp at this ⊢ <;> omega
theorem unlisted_set (l:Array Bool) (i:Nat) (h:l.getD i true = false):unlisted (l.setIfInBounds i true) + 1 = unlisted l:=by
 unfold unlisted
 have hi:i < l.size:=by
  rcases Nat.lt_or_ge i l.size with q | q
  · exact q
  · rw [Array.getD,dif_neg (by omega)] at h;cases h
 rw [Array.toList_setIfInBounds]
 refine unl_list l.toList i ?_
 rw [Array.getElem?_toList,Array.getElem?_eq_getElem hi]
 simpa [Array.getD,hi] using h
theorem ready_none {ops:Array Oper} {l:Array Bool} (hl:l.size = ops.size) (h:unlisted l = 0):Region.ready .any ops l = []:=by
 refine List.eq_nil_iff_forall_not_mem.2 fun i hi => ?_
 obtain ⟨h1,o,ho,_⟩:=mem_ready.1 hi
 have:=unlisted_set l i h1
 omega
theorem wpAny_inv {ops:Array Oper} {Q:Exit → Act → World → Prop} (I:Array Bool → Act → World → Prop)
 (hstep:∀ l a w,I l a w → l.size = ops.size → ∀ i,i ∈ Region.ready .any ops l → wpOp Tryz.prog ops Q i (I (l.setIfInBounds i true)) a w)
 (hend:∀ l a w,I l a w → l.size = ops.size → Region.ready .any ops l = [] → Q .normal a w) :
 ∀ fuel l a w,l.size = ops.size → unlisted l ≤ fuel → I l a w → wpAny Tryz.prog .any ops Q fuel l a w
 | 0,l,a,w,hl,hf,hI => ⟨ready_none hl (by omega),hend l a w hI hl (ready_none hl (by omega))⟩
 | fuel + 1,l,a,w,hl,hf,hI => by
   refine ⟨fun h => hend l a w hI hl h,fun i hi => ?_⟩
   have hu:=unlisted_set l i (mem_ready.1 hi).1
   refine wpOp_mono (fun a' w' h' => wpAny_inv I hstep hend fuel (l.setIfInBounds i true) a' w' (by simpa using hl) (by omega) h') (hstep l a w hI hl i hi)
theorem wp_region_inv {id:Nat} {ops:Array Oper} {Q:Exit → Act → World → Prop} {a:Act} {w:World} (I:Array Bool → Act → World → Prop) (h0:I (Array.replicate ops.size false) a w.drew)
 (hstep:∀ l a w,I l a w → l.size = ops.size → ∀ i,i ∈ Region.ready .any ops l → wpOp Tryz.prog ops Q i (I (l.setIfInBounds i true)) a w)
 (hend:∀ l a w,I l a w → l.size = ops.size → Region.ready .any ops l = [] → Q .normal a w):(Code.region id ops true).wp Tryz.prog Q a w :=
 wp_region_any (by kernel_rfl) (wpAny_inv I hstep hend ops.size _ a _ (by simp) (by unfold unlisted;simp) h0)
theorem all_listed {ops:Array Oper} {l:Array Bool} (hl:l.size = ops.size) (hback:∀ (i:Nat) (o:Oper),ops[i]? = some o → ∀ e ∈ o.after,e.on < i) (h:Region.ready .any ops l = []):∀ i,i < ops.size → l.getD i false = true:=by
 intro i
 induction i using Nat.strongRecOn with
 | ind i ih =>
   intro hi
   cases hb:l.getD i false with
   | true => rfl
   | false =>
     exfalso
     have ho:ops[i]? = some ops[i]:=Array.getElem?_eq_getElem hi
     have hm:i ∈ Region.ready .any ops l:=mem_ready.2 ⟨by
      have hil:i < l.size:=by omega
      simpa [Array.getD,hil] using hb,ops[i],ho,fun e he _ => ih e.on (hback i _ ho e he) (by have:=hback i _ ho e he;omega)⟩
     rw [h] at hm
     cases hm
section
variable {ops:Array Oper} {Q:Exit → Act → World → Prop} {K:Act → World → Prop} {a:Act} {w:World} {i:Nat} {o:Oper}
theorem op_value (hi:ops[i]? = some o) (hg:o.guard = none) {v:Value} {w':World} (hrun:(execOp a.eval o).run Tryz.prog w = .ok (.value v) w') (hK:K (a.put o.dst v) w'):wpOp Tryz.prog ops Q i K a w:=by
 unfold wpOp
 simp only [hi]
 have hw:Region.wanted o (yielded ops a.tmps) = true:=by simp [Region.wanted,hg]
 rw [if_pos hw]
 left
 unfold Oper.wp
 rw [hrun]
 exact hK
theorem op_call (hi:ops[i]? = some o) (hg:o.guard = none) (f:FuncId) (xs:List Operand) (tys:Array TypeId) (hop:o.op = Op.call { callee:=Callee.value (Operand.func f),args:=xs.toArray,argTypes:=tys }) (us:List Value) (hx:xs.map a.eval = us)
 (hm:(callFunc f us.toArray).run Tryz.prog w = .ok (.enter f us.toArray) w) (h:Calls Tryz.prog f us.toArray w fun e w' => ∃ v',e = .returned v' ∧ K (a.put o.dst v') w'):wpOp Tryz.prog ops Q i K a w:=by
 unfold wpOp
 simp only [hi]
 have hw:Region.wanted o (yielded ops a.tmps) = true:=by simp [Region.wanted,hg]
 rw [if_pos hw]
 left
 unfold Oper.wp
 have e:(execOp a.eval o).run Tryz.prog w = .ok (.enter f us.toArray) w:=by
  have ef:a.eval (Operand.func f) = .func (.func f) #[] #[]:=rfl
  simp only [execOp,hop,resolve,ef,Deferred.ofValue,invoke,Sem.run_bind,Sem.run_pure,Result.andThen_ok,List.map_toArray,hx]
  rw [show (#[] ++ us.toArray ++ #[]:Array Value) = us.toArray by simp]
  exact hm
 rw [e,Oper.upon_enter]
 refine h.mono ?_
 rintro e w' ⟨v',rfl,hk⟩
 exact hk
theorem run_move (x:Operand) (hop:o.op = Op.move x):(execOp a.eval o).run Tryz.prog w = .ok (.value (a.eval x)) w:=by
 simp [execOp,hop]
theorem run_assign (x:Operand) (hop:o.op = Op.assign x):(execOp a.eval o).run Tryz.prog w = .ok (.value (a.eval x)) w:=by
 simp [execOp,hop]
end
def Sl (a:Act) (n:Nat) (v:Value):Prop:=a.tmps[n]? = some v
theorem Sl.eval {a:Act} {n:Nat} {v:Value} (h:Sl a n v):a.eval (.tmp n) = v:=by
 unfold Sl at h
 simp [Act.eval,h]
theorem Sl.put_ne {a:Act} {n m:Nat} {u v:Value} (h:Sl a n u) (hne:n ≠ m):Sl (a.put (some m) v) n u:=by
 unfold Sl at h ⊢
 simp only [Act.put]
 rw [Array.getElem?_setIfInBounds_ne (Ne.symm hne)]
 exact h
theorem runs36 (args:Array Value) (w:World):(callFunc 36 args).run Tryz.prog w = .ok (.enter 36 args) w:=by kernel_rfl
theorem runs37 (args:Array Value) (w:World):(callFunc 37 args).run Tryz.prog w = .ok (.enter 37 args) w:=by kernel_rfl
theorem runs38 (args:Array Value) (w:World):(callFunc 38 args).run Tryz.prog w = .ok (.enter 38 args) w:=by kernel_rfl
theorem runs27 (args:Array Value) (w:World):(callFunc 27 args).run Tryz.prog w = .ok (.enter 27 args) w:=by kernel_rfl
section
variable {a:Act} {w:World} {o:Oper}
theorem run_load46 (x:Operand) (hop:o.op = Op.load 46 x) (q:Nat) (p l:Int) (hx:a.eval x = .pointer (some ⟨q,0,none⟩)) (c0:w.cell? ⟨q,0,none⟩ = some (.int .i64 p)) (c1:w.cell? ⟨q,1,none⟩ = some (.int .i64 l)):(execOp a.eval o).run Tryz.prog w = .ok (.value (.agg #[.int .i64 p,.int .i64 l])) w:=by
 simp only [execOp,hop,hx]
 go_simp
theorem run_load56 (x:Operand) (hop:o.op = Op.load 56 x) (q:Nat) (k n:Int) (s:ByteArray) (p l:Int) (va:Option Addr) (vn vc:Nat) (hx:a.eval x = .pointer (some ⟨q,0,none⟩)) (c0:w.cell? ⟨q,0,none⟩ = some (.int .i64 k)) (c1:w.cell? ⟨q,1,none⟩ = some (.int .i64 n)) (c2:w.cell? ⟨q,2,none⟩ = some (.string s)) (c3:w.cell? ⟨q,3,none⟩ = some (.int .i64 p)) (c4:w.cell? ⟨q,4,none⟩ = some (.int .i64 l)) (c5:w.cell? ⟨q,5,none⟩ = some (.slice va vn vc)):(execOp a.eval o).run Tryz.prog w = .ok (.value (.agg #[.int .i64 k,.int .i64 n,.string s,.int .i64 p,.int .i64 l,.slice va vn vc])) w:=by
 simp only [execOp,hop,hx]
 go_simp
theorem run_build46 (p l:Int) (hop:o.op = Op.build 46 #[(0,.const (.int .i64 p)),(1,.const (.int .i64 l))]):(execOp a.eval o).run Tryz.prog w = .ok (.value (.agg #[.int .i64 p,.int .i64 l])) w:=by
 simp only [execOp,hop]
 go_simp
theorem run_build56_0 (hop:o.op = Op.build 56 #[]):(execOp a.eval o).run Tryz.prog w = .ok (.value (.agg #[.int .i64 0,.int .i64 0,.string ⟨#[]⟩,.int .i64 0,.int .i64 0,.slice none 0 0])) w:=by
 simp only [execOp,hop]
 go_simp
theorem run_build56_k (k:Int) (hop:o.op = Op.build 56 #[(0,.const (.int .i64 k))]):(execOp a.eval o).run Tryz.prog w = .ok (.value (.agg #[.int .i64 k,.int .i64 0,.string ⟨#[]⟩,.int .i64 0,.int .i64 0,.slice none 0 0])) w:=by
 simp only [execOp,hop]
 go_simp
theorem run_build56_n (k n:Int) (hop:o.op = Op.build 56 #[(0,.const (.int .i64 k)),(1,.const (.int .i64 n))]):(execOp a.eval o).run Tryz.prog w = .ok (.value (.agg #[.int .i64 k,.int .i64 n,.string ⟨#[]⟩,.int .i64 0,.int .i64 0,.slice none 0 0])) w:=by
 simp only [execOp,hop]
 go_simp
theorem run_build56_ns (k n:Int) (s:ByteArray) (hop:o.op = Op.build 56 #[(0,.const (.int .i64 k)),(1,.const (.int .i64 n)),(2,.const (.string s))]):(execOp a.eval o).run Tryz.prog w = .ok (.value (.agg #[.int .i64 k,.int .i64 n,.string s,.int .i64 0,.int .i64 0,.slice none 0 0])) w:=by
 simp only [execOp,hop]
 go_simp
theorem run_build56_s (k:Int) (s:ByteArray) (hop:o.op = Op.build 56 #[(0,.const (.int .i64 k)),(2,.const (.string s))]):(execOp a.eval o).run Tryz.prog w = .ok (.value (.agg #[.int .i64 k,.int .i64 0,.string s,.int .i64 0,.int .i64 0,.slice none 0 0])) w:=by
 simp only [execOp,hop]
 go_simp
theorem run_build56_h (k:Int) (t:Nat) (p l:Int) (hx:Sl a t (.agg #[.int .i64 p,.int .i64 l])) (hop:o.op = Op.build 56 #[(0,.const (.int .i64 k)),(3,.tmp t)]):(execOp a.eval o).run Tryz.prog w = .ok (.value (.agg #[.int .i64 k,.int .i64 0,.string ⟨#[]⟩,.int .i64 p,.int .i64 l,.slice none 0 0])) w:=by
 have hx':a.tmps[t]? = some _:=hx
 simp only [execOp,hop]
 go_simp
theorem run_build56_l (k:Int) (t:Nat) (va:Option Addr) (vn vc:Nat) (hx:Sl a t (.slice va vn vc)) (hop:o.op = Op.build 56 #[(0,.const (.int .i64 k)),(4,.tmp t)]):(execOp a.eval o).run Tryz.prog w = .ok (.value (.agg #[.int .i64 k,.int .i64 0,.string ⟨#[]⟩,.int .i64 0,.int .i64 0,.slice va vn vc])) w:=by
 have hx':a.tmps[t]? = some _:=hx
 simp only [execOp,hop]
 go_simp
theorem run_slice5 (hop:o.op = Op.buildSlice 54 5 #[(0,.const (.int .i64 1)),(1,.const (.int .i64 2)),(2,.const (.int .i64 3)),(3,.const (.int .i64 4)),(4,.const (.int .i64 5))]):(execOp a.eval o).run Tryz.prog w = .ok (.value (.slice (some ⟨w.heap.size,0,none⟩) 5 5)) (w.alloc (.cells #[.int .i64 1,.int .i64 2,.int .i64 3,.int .i64 4,.int .i64 5] 3)):=by
 simp only [execOp,hop]
 go_simp
theorem run_slice4 (hop:o.op = Op.buildSlice 54 4 #[(0,.const (.int .i64 1)),(1,.const (.int .i64 2)),(2,.const (.int .i64 3)),(3,.const (.int .i64 4))]):(execOp a.eval o).run Tryz.prog w = .ok (.value (.slice (some ⟨w.heap.size,0,none⟩) 4 4)) (w.alloc (.cells #[.int .i64 1,.int .i64 2,.int .i64 3,.int .i64 4] 3)):=by
 simp only [execOp,hop]
 go_simp
end
def rSch:List UInt8:=[112,111,115,32,120,58,105,110,116,32,121,58,105,110,116,10,110,97,109,101,32,115,58,116,101,120,116,10,108,105,110,107,32,116,111,58,114,101,102,32,110,101,120,116,58,114,101,102,10,102,108,97,103,32,111,110,58,98,111,111,108,10,98,97,103,32,108,58,108,105,115,116,10,109,97,114,107,10]
def rL:List CompS:=[([112,111,115],[([120],1),([121],1)]),([110,97,109,101],[([115],3)]),([108,105,110,107],[([116,111],4),([110,101,120,116],4)]),([102,108,97,103],[([111,110],2)]),([98,97,103],[([108],5)]),([109,97,114,107],[])]
structure Cm where
 t:Nat
 hp:Int
 hl:Int
 o:Ov
def cmE (L:List CompS) (S:St) (c:Cm):Int :=
 if c.t = 0 then addE L S c.hp c.hl c.o.c else if c.t = 1 then (findOwnP L S c.hp c.hl c.o.c).2 else if c.t = 2 then setE L S c.hp c.hl c.o.c c.o.f c.o.k c.o.n c.o.s.length c.o.p c.o.l c.o.ls.length else (if aliveB S.bg S.tk c.hp c.hl then 0 else 3)
def cmS (L:List CompS) (S:St) (c:Cm):St :=
 if cmE L S c = 0 then (if c.t = 0 then S.addc L c.hp c.o.c else S.set L c.hp c.hl c.o.c c.o.f ⟨c.o.n,c.o.s,c.o.p,c.o.l,c.o.ls⟩) else S
def cms:List Cm:=[⟨0,2,1,⟨0,[110,111,110,101],[],0,0,[],0,0,[]⟩⟩,
 ⟨0,1,1,⟨0,[110,111,110,101],[],0,0,[],0,0,[]⟩⟩,
 ⟨0,1,1,⟨0,[112,111,115],[],0,0,[],0,0,[]⟩⟩,
 ⟨0,1,1,⟨0,[112,111,115],[],0,0,[],0,0,[]⟩⟩,
 ⟨1,1,1,⟨0,[110,97,109,101],[],0,0,[],0,0,[]⟩⟩,
 ⟨1,0,0,⟨0,[120],[],0,0,[],0,0,[]⟩⟩,
 ⟨1,1,1,⟨0,[120],[],0,0,[],0,0,[]⟩⟩,
 ⟨2,2,1,⟨0,[112,111,115],[122],1,1,[],0,0,[]⟩⟩,
 ⟨2,1,1,⟨0,[110,111,110,101],[122],1,1,[],0,0,[]⟩⟩,
 ⟨2,1,1,⟨0,[110,97,109,101],[122],1,1,[],0,0,[]⟩⟩,
 ⟨2,1,1,⟨0,[112,111,115],[122],0,0,[],0,0,[]⟩⟩,
 ⟨2,1,1,⟨0,[112,111,115],[120],3,0,[],0,0,[]⟩⟩,
 ⟨2,1,1,⟨0,[112,111,115],[120],1,1,[],0,0,[]⟩⟩,
 ⟨0,1,1,⟨0,[108,105,110,107],[],0,0,[],0,0,[]⟩⟩,
 ⟨2,1,1,⟨0,[108,105,110,107],[116,111],4,0,[],2,1,[]⟩⟩,
 ⟨2,1,1,⟨0,[108,105,110,107],[116,111],4,0,[],1,1,[]⟩⟩,
 ⟨2,1,1,⟨0,[108,105,110,107],[116,111],4,9,[],0,0,[]⟩⟩,
 ⟨0,1,1,⟨0,[102,108,97,103],[],0,0,[],0,0,[]⟩⟩,
 ⟨2,1,1,⟨0,[102,108,97,103],[111,110],2,2,[],0,0,[]⟩⟩,
 ⟨2,1,1,⟨0,[102,108,97,103],[111,110],2,1,[120],0,0,[]⟩⟩,
 ⟨0,1,1,⟨0,[110,97,109,101],[],0,0,[],0,0,[]⟩⟩,
 ⟨2,1,1,⟨0,[110,97,109,101],[115],3,0,[49,50,51,52,53,54,55,56,57,48,49,50,51],0,0,[]⟩⟩,
 ⟨2,1,1,⟨0,[110,97,109,101],[115],3,0,[49,50,51,52,53,54,55,56,57,48,49,50],0,0,[]⟩⟩,
 ⟨0,1,1,⟨0,[98,97,103],[],0,0,[],0,0,[]⟩⟩,
 ⟨2,1,1,⟨0,[98,97,103],[108],5,0,[],0,0,[1,2,3,4,5]⟩⟩,
 ⟨2,1,1,⟨0,[98,97,103],[108],5,0,[],0,0,[1,2,3,4]⟩⟩,
 ⟨3,2,1,⟨0,[],[],0,0,[],0,0,[]⟩⟩,
 ⟨3,0,0,⟨0,[],[],0,0,[],0,0,[]⟩⟩,
 ⟨3,-1,1,⟨0,[],[],0,0,[],0,0,[]⟩⟩,
 ⟨3,21,1,⟨0,[],[],0,0,[],0,0,[]⟩⟩]
def cmAt (k:Nat):Cm:=cms.getD k ⟨3,0,0,⟨0,[],[],0,0,[],0,0,[]⟩⟩
def stB:St:=((St.nought.spawn 0 0).spawn 1 0).gone 1
def stK:Nat → St
 | 0 => stB
 | k + 1 => cmS rL (stK k) (cmAt k)
def wantR:List Int:=[3,4,0,5,6,3,4,3,4,6,7,8,0,0,9,0,0,0,8,0,0,8,0,0,8,0,3,3,3,3]
set_option maxRecDepth 100000
theorem r_sch:schemaL rSch = some rL:=by decide +kernel
theorem want_ok:((List.range 30).all fun k => cmE rL (stK k) (cmAt k) == wantR.getD k 0) = true:=by decide +kernel
theorem cms_shape:((List.range 30).all fun k => decide ((cmAt k).t < 4) && (decide ((cmAt k).o.s.length ≤ 100) && decide ((cmAt k).o.ls.length ≤ 10))) = true:=by decide +kernel
def Sized (S:St):Prop:=∀ i k f,(S.vals i k f).ls.length ≤ 100 ∧ (S.vals i k f).s.length ≤ 1000
theorem sized_zero:FV.zero.ls.length ≤ 100 ∧ FV.zero.s.length ≤ 1000:=by simp [FV.zero]
theorem Sized.norm {kd:Nat} {x:FV} (h:x.ls.length ≤ 100 ∧ x.s.length ≤ 1000):(FV.norm kd x).ls.length ≤ 100 ∧ (FV.norm kd x).s.length ≤ 1000:=by
 unfold FV.norm
 refine ⟨?_,h.2⟩
 simp only
 split
 · exact h.1
 · simp
theorem sized_stB:Sized stB:=fun i k f => by
 unfold stB St.gone St.spawn St.nought upd
 simp only
 split
 · exact sized_zero
 · split <;> exact sized_zero
theorem Sized.move {S:St} (h:Sized S) (L:List CompS) (i s':Nat) (lv:Nat → Nat → Value):Sized (S.move L i s' lv):=fun j k f => by
 unfold St.move
 simp only
 by_cases e:j = i
 · subst e
   rw [upd_same]
   split
   · exact Sized.norm (h j k f)
   · exact sized_zero
 · rw [upd_ne _ _ _ e]
   exact h j k f
theorem Sized.set {S:St} (h:Sized S) (L:List CompS) (p l:Int) (nm fn:List UInt8) (x:FV) (hx:x.ls.length ≤ 100 ∧ x.s.length ≤ 1000):Sized (S.set L p l nm fn x):=fun j k f => by
 unfold St.set St.put
 simp only
 split
 · exact Sized.norm hx
 · exact h j k f
theorem cm_bounds (k:Nat) (hk:k < 30):(cmAt k).t < 4 ∧ (cmAt k).o.s.length ≤ 100 ∧ (cmAt k).o.ls.length ≤ 10:=by
 have:=List.all_eq_true.1 cms_shape k (List.mem_range.2 hk)
 simpa using this
theorem sized_stK:∀ k,k ≤ 30 → Sized (stK k)
 | 0,_ => sized_stB
 | k + 1,hk => by
   have ih:=sized_stK k (by omega)
   obtain ⟨_,b1,b2⟩:=cm_bounds k (by omega)
   show Sized (cmS rL (stK k) (cmAt k))
   unfold cmS
   split
   · split
     · exact ih.move _ _ _ _
     · exact ih.set _ _ _ _ _ _ ⟨by simp only;omega,by simp only;omega⟩
   · exact ih
theorem want_at (k:Nat) (hk:k < 30):cmE rL (stK k) (cmAt k) = wantR.getD k 0:=by
 have:=List.all_eq_true.1 want_ok k (List.mem_range.2 hk)
 simpa using this
def Kept (X:List (Nat × Obj)) (w:World) (own:Nat → Nat):Prop:=∀ x ∈ X,x.1 < w.heap.size ∧ own x.1 = 0 ∧ w.heap[x.1]? = some x.2
theorem Kept.step {X:List (Nat × Obj)} {w w':World} {own own':Nat → Nat} (h:Kept X w own) (hs:Stp w own w' own'):Kept X w' own':=fun x hx => by
 obtain ⟨h1,h2,h3⟩:=h x hx
 have z:=hs.1.size
 exact ⟨by omega,(hs.2 _ h1).trans h2,(hs.1.block _ h1 (by unfold Tur;omega)).trans h3⟩
def CmAt (w0:World) (own0:Nat → Nat) (b g lc N:Nat) (X:List (Nat × Obj)) (k:Nat) (w:World):Prop:=∃ own lv,Stp w0 own0 w own ∧ WT w own b g lc (N + k) rL { stK k with lv:=lv } ∧ Kept X w own
theorem CmAt.below {w0 w w':World} {own0:Nat → Nat} {b g lc N k:Nat} {X:List (Nat × Obj)} (h:CmAt w0 own0 b g lc N X k w) (hb:Below w.heap.size w w'):CmAt w0 own0 b g lc N X k w':=by
 obtain ⟨own,lv,h1,h2,h3⟩:=h
 exact ⟨own,lv,h1.trans (Stp.below hb),h2.below hb,h3.step (Stp.below hb)⟩
theorem CmAt.alloc {w0 w:World} {own0:Nat → Nat} {b g lc N k:Nat} {X:List (Nat × Obj)} (h:CmAt w0 own0 b g lc N X k w) (cs:Array Value) (t:TypeId):CmAt w0 own0 b g lc N ((w.heap.size,.cells cs t (0,0)) :: X) k (w.alloc (.cells cs t)):=by
 have hb:Below w.heap.size w (w.alloc (.cells cs t)):=(Below.refl _ _).alloc (Nat.le_refl _) _
 obtain ⟨own,lv,h1,h2,h3⟩:=h
 refine ⟨own,lv,h1.trans (Stp.below hb),h2.below hb,fun x hx => ?_⟩
 rcases List.mem_cons.1 hx with rfl | hx
 · exact ⟨by simp,h2.out _ (Nat.le_refl _),heap_alloc_at rfl _⟩
 · exact (h3.step (Stp.below hb)) x hx
theorem CmAt.has {w0 w:World} {own0:Nat → Nat} {b g lc N k:Nat} {X:List (Nat × Obj)} (h:CmAt w0 own0 b g lc N X k w) {q:Nat} {ob:Obj} (hq:(q,ob) ∈ X):w.heap[q]? = some ob:=by
 obtain ⟨_,_,_,_,h3⟩:=h
 exact (h3 _ hq).2.2
theorem cm_add {w0 w:World} {own0:Nat → Nat} {b g lc N k:Nat} {X:List (Nat × Obj)} (h:CmAt w0 own0 b g lc N X k w) (hk:k < 30) (hN:N + 31 ≤ 1000) (hN1:1 ≤ N) (ht:(cmAt k).t = 0) :
 Calls Tryz.prog 36 #[.pointer (some ⟨b,0,none⟩),.agg #[.int .i64 (cmAt k).hp,.int .i64 (cmAt k).hl],.string (mk (cmAt k).o.c)] w fun e w' => e = .returned (.int .i64 (wantR.getD k 0)) ∧ CmAt w0 own0 b g lc N X (k + 1) w':=by
 obtain ⟨own,lv,h1,h2,hX⟩:=h
 have hw:=want_at k hk
 have e1:cmE rL (stK k) (cmAt k) = addE rL (stK k) (cmAt k).hp (cmAt k).hl (cmAt k).o.c:=by unfold cmE;rw [if_pos ht]
 refine (add_w h2 (cmAt k).hp (cmAt k).hl (cmAt k).o.c (by omega) (by omega) (sized_stK k (by omega))).mono ?_
 rintro e w' ⟨he,own',lv',q1,q2⟩
 have e2:addE rL { stK k with lv:=lv } (cmAt k).hp (cmAt k).hl (cmAt k).o.c = wantR.getD k 0:=by
  rw [← hw,e1];rfl
 rw [e2] at he q2
 refine ⟨he,own',lv',h1.trans q1,?_,hX.step q1⟩
 have e3:({ (if wantR.getD k 0 = 0 then ({ stK k with lv:=lv }:St).addc rL (cmAt k).hp (cmAt k).o.c else { stK k with lv:=lv }) with lv:=lv' }:St) = { stK (k + 1) with lv:=lv' }:=by
  show _ = ({ cmS rL (stK k) (cmAt k) with lv:=lv' }:St)
  unfold cmS
  rw [hw,ht]
  split
  · rw [if_pos rfl];rfl
  · rfl
 rw [e3] at q2
 exact q2
theorem cm_rem {w0 w:World} {own0:Nat → Nat} {b g lc N k:Nat} {X:List (Nat × Obj)} (h:CmAt w0 own0 b g lc N X k w) (hk:k < 30) (ht:(cmAt k).t = 1) (hne:wantR.getD k 0 ≠ 0) :
 Calls Tryz.prog 37 #[.pointer (some ⟨b,0,none⟩),.agg #[.int .i64 (cmAt k).hp,.int .i64 (cmAt k).hl],.string (mk (cmAt k).o.c)] w fun e w' => e = .returned (.int .i64 (wantR.getD k 0)) ∧ CmAt w0 own0 b g lc N X (k + 1) w':=by
 obtain ⟨own,lv,h1,h2,hX⟩:=h
 have hw:=want_at k hk
 have e1:cmE rL (stK k) (cmAt k) = (findOwnP rL (stK k) (cmAt k).hp (cmAt k).hl (cmAt k).o.c).2:=by unfold cmE;rw [if_neg (by omega),if_pos ht]
 have e2:(findOwnP rL { stK k with lv:=lv } (cmAt k).hp (cmAt k).hl (cmAt k).o.c).2 = wantR.getD k 0:=by
  rw [← hw,e1];rfl
 refine (remove_no h2 (cmAt k).hp (cmAt k).hl (cmAt k).o.c (by rw [e2];exact hne)).mono ?_
 rintro e w' ⟨he,hb⟩
 rw [e2] at he
 refine ⟨he,own,lv,h1.trans (Stp.below hb),?_,hX.step (Stp.below hb)⟩
 have e3:stK (k + 1) = stK k:=by
  show cmS rL (stK k) (cmAt k) = stK k
  unfold cmS
  rw [hw,if_neg hne]
 rw [e3]
 exact (h2.below hb).more (by omega)
theorem cm_des {w0 w:World} {own0:Nat → Nat} {b g lc N k:Nat} {X:List (Nat × Obj)} (h:CmAt w0 own0 b g lc N X k w) (hk:k < 30) (ht:(cmAt k).t = 3) (hne:wantR.getD k 0 ≠ 0) :
 Calls Tryz.prog 27 #[.pointer (some ⟨b,0,none⟩),.agg #[.int .i64 (cmAt k).hp,.int .i64 (cmAt k).hl]] w fun e w' => e = .returned (.int .i64 (wantR.getD k 0)) ∧ CmAt w0 own0 b g lc N X (k + 1) w':=by
 obtain ⟨own,lv,h1,h2,hX⟩:=h
 have hw:=want_at k hk
 have e1:cmE rL (stK k) (cmAt k) = if aliveB (stK k).bg (stK k).tk (cmAt k).hp (cmAt k).hl then 0 else 3:=by unfold cmE;rw [if_neg (by omega),if_neg (by omega),if_neg (by omega)]
 have hal:aliveB (stK k).bg (stK k).tk (cmAt k).hp (cmAt k).hl = false:=by
  cases hq:aliveB (stK k).bg (stK k).tk (cmAt k).hp (cmAt k).hl with
  | false => rfl
  | true =>
    rw [hq] at e1
    simp at e1
    rw [e1] at hw
    exact absurd hw.symm hne
 have e2:wantR.getD k 0 = 3:=by rw [← hw,e1,hal];rfl
 refine (despawn_stale h2 (cmAt k).hp (cmAt k).hl hal).mono ?_
 rintro e w' ⟨he,hb⟩
 rw [e2]
 refine ⟨he,own,lv,h1.trans (Stp.below hb),?_,hX.step (Stp.below hb)⟩
 have e3:stK (k + 1) = stK k:=by
  show cmS rL (stK k) (cmAt k) = stK k
  unfold cmS
  rw [hw,if_neg hne]
 rw [e3]
 exact (h2.below hb).more (by omega)
theorem cm_set {w0 w:World} {own0:Nat → Nat} {b g lc N k:Nat} {X:List (Nat × Obj)} (h:CmAt w0 own0 b g lc N X k w) (hk:k < 30) (ht:(cmAt k).t = 2) (va:Option Addr) (vc:Nat) (hvl:IntsAt w (.slice va (cmAt k).o.ls.length vc) (cmAt k).o.ls) :
 Calls Tryz.prog 38 #[.pointer (some ⟨b,0,none⟩),.agg #[.int .i64 (cmAt k).hp,.int .i64 (cmAt k).hl],.string (mk (cmAt k).o.c),.string (mk (cmAt k).o.f),.agg #[.int .i64 (cmAt k).o.k,.int .i64 (cmAt k).o.n,.string (mk (cmAt k).o.s),.int .i64 (cmAt k).o.p,.int .i64 (cmAt k).o.l,.slice va (cmAt k).o.ls.length vc]] w fun e w' => e = .returned (.int .i64 (wantR.getD k 0)) ∧ CmAt w0 own0 b g lc N X (k + 1) w':=by
 obtain ⟨own,lv,h1,h2,hX⟩:=h
 have hw:=want_at k hk
 obtain ⟨_,b1,b2⟩:=cm_bounds k hk
 have e1:cmE rL (stK k) (cmAt k) = setE rL (stK k) (cmAt k).hp (cmAt k).hl (cmAt k).o.c (cmAt k).o.f (cmAt k).o.k (cmAt k).o.n (cmAt k).o.s.length (cmAt k).o.p (cmAt k).o.l (cmAt k).o.ls.length:=by unfold cmE;rw [if_neg (by omega),if_neg (by omega),if_pos ht]
 refine (set_w h2 (cmAt k).hp (cmAt k).hl (cmAt k).o.c (cmAt k).o.f (cmAt k).o.k (cmAt k).o.n (cmAt k).o.s (cmAt k).o.p (cmAt k).o.l va vc (cmAt k).o.ls (by omega) (by omega) hvl).mono ?_
 rintro e w' ⟨he,own',lv',q1,q2⟩
 have e2:setE rL { stK k with lv:=lv } (cmAt k).hp (cmAt k).hl (cmAt k).o.c (cmAt k).o.f (cmAt k).o.k (cmAt k).o.n (cmAt k).o.s.length (cmAt k).o.p (cmAt k).o.l (cmAt k).o.ls.length = wantR.getD k 0:=by
  rw [← hw,e1];rfl
 rw [e2] at he q2
 refine ⟨he,own',lv',h1.trans q1,?_,hX.step q1⟩
 have e3:({ (if wantR.getD k 0 = 0 then ({ stK k with lv:=lv }:St).set rL (cmAt k).hp (cmAt k).hl (cmAt k).o.c (cmAt k).o.f ⟨(cmAt k).o.n,(cmAt k).o.s,(cmAt k).o.p,(cmAt k).o.l,(cmAt k).o.ls⟩ else { stK k with lv:=lv }) with lv:=lv' }:St) = { stK (k + 1) with lv:=lv' }:=by
  show _ = ({ cmS rL (stK k) (cmAt k) with lv:=lv' }:St)
  unfold cmS
  rw [hw,ht]
  split
  · rw [if_neg (by decide)];rfl
  · rfl
 rw [e3] at q2
 exact q2.more (by omega)
def regOf (n:Nat):Code → Option (Array Oper)
 | .region id ops _ => if id = n then some ops else none
 | .seq x y => match regOf n x with | some r => some r | none => regOf n y
 | .cond _ x y => match regOf n x with | some r => some r | none => regOf n y
 | .block _ x => regOf n x
 | .loop x => regOf n x
 | .scope x => regOf n x
 | _ => none
def IsReg (n:Nat) (ops:Array Oper):Prop:=Tryz.f13.body.bind (regOf n) = some ops
theorem IsReg.check {n:Nat} {ops:Array Oper} (h:IsReg n ops) {α:Type} (f:Array Oper → α) {v:α} (hk:(Tryz.f13.body.bind (regOf n)).map f = some v):f ops = v:=by
 unfold IsReg at h
 rw [h] at hk
 simpa using hk
def dst9 (i:Nat):Nat:=if i = 110 then 9 else 56 + i
def plainB (n:Nat) (d:Nat → Nat) (ops:Array Oper):Bool:=(List.range n).all fun i => match ops[i]? with | some o => (o.dst == some (d i)) && o.guard.isNone | none => false
def backB (n:Nat) (ops:Array Oper):Bool:=(List.range n).all fun i => match ops[i]? with | some o => o.after.all (fun e => decide (e.on < i)) | none => true
def depB (ops:Array Oper) (i d:Nat):Bool:=match ops[i]? with | some o => o.after.any (fun e => e.on == d && Region.binds .any e) | none => false
theorem dep_listed {ops:Array Oper} {i d:Nat} {l:Array Bool} (hr:i ∈ Region.ready .any ops l) (hd:depB ops i d = true):l.getD d false = true:=by
 obtain ⟨_,o,ho,hall⟩:=mem_ready.1 hr
 unfold depB at hd
 rw [ho] at hd
 simp only [Array.any_eq_true'] at hd
 obtain ⟨e,he,hq⟩:=hd
 simp only [Bool.and_eq_true,beq_iff_eq] at hq
 rw [← hq.1]
 exact hall e he hq.2
theorem op_plain {n:Nat} {d:Nat → Nat} {ops:Array Oper} (h:plainB n d ops = true) {i:Nat} {o:Oper} (hi:i < n) (ho:ops[i]? = some o):o.dst = some (d i) ∧ o.guard = none:=by
 have:=List.all_eq_true.1 h i (List.mem_range.2 hi)
 rw [ho] at this
 simp only [Bool.and_eq_true,beq_iff_eq,Option.isNone_iff_eq_none] at this
 exact this
theorem op_back {n:Nat} {ops:Array Oper} (hs:ops.size = n) (h:backB n ops = true):∀ (i:Nat) (o:Oper),ops[i]? = some o → ∀ e ∈ o.after,e.on < i:=fun i o ho e he => by
 have hi:i < n:=by
  have:=(Array.getElem?_eq_some_iff.1 ho).1
  omega
 have:=List.all_eq_true.1 h i (List.mem_range.2 hi)
 rw [ho] at this
 simp only [Array.all_eq_true_iff_forall_mem,decide_eq_true_eq] at this
 exact this e he
theorem size9 {ops:Array Oper} (h:IsReg 9 ops):ops.size = 111:=h.check (fun ops => ops.size) (by kernel_rfl)
theorem plain9 {ops:Array Oper} (h:IsReg 9 ops):plainB 111 dst9 ops = true:=h.check (plainB 111 dst9) (by kernel_rfl)
theorem back9 {ops:Array Oper} (h:IsReg 9 ops):backB 111 ops = true:=h.check (backB 111) (by kernel_rfl)
def v9L (b A B D:Nat):List Value:=[.pointer (some ⟨b,0,none⟩),.agg #[.int .i64 2,.int .i64 1],.int .i64 3,.pointer (some ⟨b,0,none⟩),.agg #[.int .i64 1,.int .i64 1],.int .i64 4,.pointer (some ⟨b,0,none⟩),.agg #[.int .i64 1,.int .i64 1],.int .i64 0,.pointer (some ⟨b,0,none⟩),.agg #[.int .i64 1,.int .i64 1],.int .i64 5,.pointer (some ⟨b,0,none⟩),.agg #[.int .i64 1,.int .i64 1],.int .i64 6,.pointer (some ⟨b,0,none⟩),.agg #[.int .i64 0,.int .i64 0],.int .i64 3,.pointer (some ⟨b,0,none⟩),.agg #[.int .i64 1,.int .i64 1],.int .i64 4,.pointer (some ⟨b,0,none⟩),.agg #[.int .i64 2,.int .i64 1],.agg #[.int .i64 1,.int .i64 1,.string ⟨#[]⟩,.int .i64 0,.int .i64 0,.slice none 0 0],.int .i64 3,.pointer (some ⟨b,0,none⟩),.agg #[.int .i64 1,.int .i64 1],.agg #[.int .i64 1,.int .i64 1,.string ⟨#[]⟩,.int .i64 0,.int .i64 0,.slice none 0 0],.int .i64 4,.pointer (some ⟨b,0,none⟩),.agg #[.int .i64 1,.int .i64 1],.agg #[.int .i64 1,.int .i64 1,.string ⟨#[]⟩,.int .i64 0,.int .i64 0,.slice none 0 0],.int .i64 6,.pointer (some ⟨b,0,none⟩),.agg #[.int .i64 1,.int .i64 1],.agg #[.int .i64 0,.int .i64 0,.string ⟨#[]⟩,.int .i64 0,.int .i64 0,.slice none 0 0],.int .i64 7,.pointer (some ⟨b,0,none⟩),.agg #[.int .i64 1,.int .i64 1],.agg #[.int .i64 3,.int .i64 0,.string ⟨#[]⟩,.int .i64 0,.int .i64 0,.slice none 0 0],.int .i64 8,.pointer (some ⟨b,0,none⟩),.agg #[.int .i64 1,.int .i64 1],.agg #[.int .i64 1,.int .i64 1,.string ⟨#[]⟩,.int .i64 0,.int .i64 0,.slice none 0 0],.int .i64 0,.pointer (some ⟨b,0,none⟩),.agg #[.int .i64 1,.int .i64 1],.int .i64 0,.pointer (some ⟨b,0,none⟩),.agg #[.int .i64 1,.int .i64 1],.agg #[.int .i64 2,.int .i64 1],.agg #[.int .i64 4,.int .i64 0,.string ⟨#[]⟩,.int .i64 2,.int .i64 1,.slice none 0 0],.int .i64 9,.pointer (some ⟨b,0,none⟩),.agg #[.int .i64 1,.int .i64 1],.agg #[.int .i64 1,.int .i64 1],.agg #[.int .i64 4,.int .i64 0,.string ⟨#[]⟩,.int .i64 1,.int .i64 1,.slice none 0 0],.int .i64 0,.pointer (some ⟨b,0,none⟩),.agg #[.int .i64 1,.int .i64 1],.agg #[.int .i64 4,.int .i64 9,.string ⟨#[]⟩,.int .i64 0,.int .i64 0,.slice none 0 0],.int .i64 0,.pointer (some ⟨b,0,none⟩),.agg #[.int .i64 1,.int .i64 1],.int .i64 0,.pointer (some ⟨b,0,none⟩),.agg #[.int .i64 1,.int .i64 1],.agg #[.int .i64 2,.int .i64 2,.string ⟨#[]⟩,.int .i64 0,.int .i64 0,.slice none 0 0],.int .i64 8,.pointer (some ⟨b,0,none⟩),.agg #[.int .i64 1,.int .i64 1],.agg #[.int .i64 2,.int .i64 1,.string ⟨#[120]⟩,.int .i64 0,.int .i64 0,.slice none 0 0],.int .i64 0,.pointer (some ⟨b,0,none⟩),.agg #[.int .i64 1,.int .i64 1],.int .i64 0,.pointer (some ⟨b,0,none⟩),.agg #[.int .i64 1,.int .i64 1],.agg #[.int .i64 3,.int .i64 0,.string ⟨#[49,50,51,52,53,54,55,56,57,48,49,50,51]⟩,.int .i64 0,.int .i64 0,.slice none 0 0],.int .i64 8,.pointer (some ⟨b,0,none⟩),.agg #[.int .i64 1,.int .i64 1],.agg #[.int .i64 3,.int .i64 0,.string ⟨#[49,50,51,52,53,54,55,56,57,48,49,50]⟩,.int .i64 0,.int .i64 0,.slice none 0 0],.int .i64 0,.pointer (some ⟨b,0,none⟩),.agg #[.int .i64 1,.int .i64 1],.int .i64 0,.pointer (some ⟨b,0,none⟩),.agg #[.int .i64 1,.int .i64 1],.slice (some ⟨A,0,none⟩) 5 5,.agg #[.int .i64 5,.int .i64 0,.string ⟨#[]⟩,.int .i64 0,.int .i64 0,.slice (some ⟨A,0,none⟩) 5 5],.int .i64 8,.pointer (some ⟨b,0,none⟩),.agg #[.int .i64 1,.int .i64 1],.slice (some ⟨B,0,none⟩) 4 4,.agg #[.int .i64 5,.int .i64 0,.string ⟨#[]⟩,.int .i64 0,.int .i64 0,.slice (some ⟨B,0,none⟩) 4 4],.int .i64 0,.pointer (some ⟨b,0,none⟩),.agg #[.int .i64 2,.int .i64 1],.int .i64 3,.pointer (some ⟨b,0,none⟩),.agg #[.int .i64 0,.int .i64 0],.int .i64 3,.pointer (some ⟨b,0,none⟩),.agg #[.int .i64 (-1),.int .i64 1],.int .i64 3,.pointer (some ⟨b,0,none⟩),.agg #[.int .i64 21,.int .i64 1],.int .i64 3,.slice (some ⟨D,0,none⟩) 30 30,.slice (some ⟨D,0,none⟩) 30 30]
def v9 (b A B D i:Nat):Value:=(v9L b A B D).getD i undef
def call9:List Nat:=[2,5,8,11,14,17,20,24,28,32,36,40,44,47,52,57,61,64,68,72,75,79,83,86,91,96,99,102,105,108]
def callIx (j:Nat):Nat:=call9.getD j 200
def objA:Obj:=.cells #[.int .i64 1,.int .i64 2,.int .i64 3,.int .i64 4,.int .i64 5] 3 (0,0)
def objB:Obj:=.cells #[.int .i64 1,.int .i64 2,.int .i64 3,.int .i64 4] 3 (0,0)
def objD:Obj:=.cells (wantR.map (Value.int .i64)).toArray 33 (0,0)
def keep9 (l:Array Bool) (A B D:Nat):List (Nat × Obj):=(if l.getD 89 false then [(A,objA)] else []) ++ ((if l.getD 94 false then [(B,objB)] else []) ++ (if l.getD 109 false then [(D,objD)] else []))
structure R9 (b g lc N:Nat) (w0:World) (own0:Nat → Nat) (X:List (Nat × Obj)) (a0:Act) (c A B D:Nat) (l:Array Bool) (a:Act) (w:World):Prop where
 sz:a.tmps.size = 353
 cle:c ≤ 30
 df:a.defers = a0.defers
 lo:∀ n,n < 56 → n ≠ 9 → a.tmps[n]? = a0.tmps[n]?
 up:∀ n,166 ≤ n → a.tmps[n]? = a0.tmps[n]?
 pre:∀ j,j < 30 → (l.getD (callIx j) false = true ↔ j < c)
 dA:l.getD 90 false = true → l.getD 89 false = true
 dB:l.getD 95 false = true → l.getD 94 false = true
 dD:l.getD 110 false = true → l.getD 109 false = true
 cm:CmAt w0 own0 b g lc N (keep9 l A B D ++ X) c w
 vals:∀ i,i < 111 → l.getD i false = true → Sl a (dst9 i) (v9 b A B D i)
theorem dst9_inj {i j:Nat} (h:dst9 i = dst9 j) (hi:i < 111) (hj:j < 111):i = j:=by unfold dst9 at h;split at h <;> split at h <;> omega
theorem dst9_lt {i:Nat} (hi:i < 111):dst9 i < 353:=by unfold dst9;split <;> omega
theorem lget_set (l:Array Bool) (i j:Nat) (hi:i < l.size):(l.setIfInBounds i true).getD j false = if j = i then true else l.getD j false:=by
 by_cases e:j = i
 · subst e
   simp [Array.getD,hi]
 · rw [if_neg e,Array.getD_eq_getD_getElem?,Array.getD_eq_getD_getElem?,Array.getElem?_setIfInBounds_ne (Ne.symm e)]
theorem sl_put {a:Act} {n:Nat} {v:Value} (h:n < a.tmps.size):Sl (a.put (some n) v) n v:=by
 unfold Sl
 simp [Act.put,h]
theorem put_get_ne (a:Act) (n m:Nat) (v:Value) (h:m ≠ n):(a.put (some n) v).tmps[m]? = a.tmps[m]?:=by
 simp only [Act.put]
 rw [Array.getElem?_setIfInBounds_ne (Ne.symm h)]
theorem R9.more {b g lc N c c' A B D A' B' D' i:Nat} {w0 w w':World} {own0:Nat → Nat} {X:List (Nat × Obj)} {a0 a:Act} {l:Array Bool} (h:R9 b g lc N w0 own0 X a0 c A B D l a w) (hl:l.size = 111) (hi:i < 111) (v:Value) (hv:v = v9 b A' B' D' i)
 (hsame:∀ j,j < 111 → l.getD j false = true → v9 b A' B' D' j = v9 b A B D j) (hpre:∀ j,j < 30 → ((l.setIfInBounds i true).getD (callIx j) false = true ↔ j < c'))
 (hdA:i = 90 → l.getD 89 false = true) (hdB:i = 95 → l.getD 94 false = true) (hdD:i = 110 → l.getD 109 false = true) (hcm:CmAt w0 own0 b g lc N (keep9 (l.setIfInBounds i true) A' B' D' ++ X) c' w') (hle:c' ≤ 30) :
 R9 b g lc N w0 own0 X a0 c' A' B' D' (l.setIfInBounds i true) (a.put (some (dst9 i)) v) w':=by
 have hs:∀ j,(l.setIfInBounds i true).getD j false = if j = i then true else l.getD j false:=fun j => lget_set l i j (by omega)
 have hd:=dst9_lt hi
 refine { sz:=by simp [Act.put,h.sz],cle:=hle,df:=by simp only [Act.put];exact h.df,lo:=fun n hn h9 => (put_get_ne a _ n v (by unfold dst9;split <;> omega)).trans (h.lo n hn h9),up:=fun n hn => (put_get_ne a _ n v (by unfold dst9;split <;> omega)).trans (h.up n hn),pre:=hpre,dA:=fun q => ?_,dB:=fun q => ?_,dD:=fun q => ?_,cm:=hcm,vals:=fun j hj hq => ?_ }
 · rw [hs] at q ⊢
   split
   · rfl
   · split at q
     · rename_i e;exact hdA e.symm
     · exact h.dA q
 · rw [hs] at q ⊢
   split
   · rfl
   · split at q
     · rename_i e;exact hdB e.symm
     · exact h.dB q
 · rw [hs] at q ⊢
   split
   · rfl
   · split at q
     · rename_i e;exact hdD e.symm
     · exact h.dD q
 · by_cases e:j = i
   · subst e
     rw [← hv]
     exact sl_put (by rw [h.sz];exact hd)
   · rw [hs,if_neg e] at hq
     rw [hsame j hj hq]
     have:=h.vals j hj hq
     exact Sl.put_ne this (fun e' => e (dst9_inj e' hj hi))
theorem cell_at {w:World} {q j:Nat} {cs:Array Value} {t:TypeId} {m:Nat × Nat} {v:Value} (h:w.heap[q]? = some (.cells cs t m)) (hv:cs[j]? = some v):w.cell? ⟨q,j,none⟩ = some v:=by
 simp [World.cell?,h,hv]
def OpIs (n i:Nat) (x:Op):Prop:=(Tryz.f13.body.bind (regOf n)).map (fun ops:Array Oper => ops[i]?.map (fun o:Oper => o.op)) = some (some x)
def DepIs (n i d:Nat):Prop:=(Tryz.f13.body.bind (regOf n)).map (fun ops => depB ops i d) = some true
theorem OpIs.tell {n i:Nat} {x:Op} (h:OpIs n i x) {ops:Array Oper} (hR:IsReg n ops) {o:Oper} (ho:ops[i]? = some o):o.op = x:=by
 have:=hR.check (fun ops:Array Oper => ops[i]?.map (fun o:Oper => o.op)) h
 simp only [ho,Option.map_some] at this
 exact Option.some.inj this
theorem DepIs.listed {n i d:Nat} (h:DepIs n i d) {ops:Array Oper} (hR:IsReg n ops) {l:Array Bool} (hr:i ∈ Region.ready .any ops l):l.getD d false = true:=dep_listed hr (hR.check (fun ops => depB ops i d) h)
theorem ready_not {ops:Array Oper} {l:Array Bool} {i:Nat} (hr:i ∈ Region.ready .any ops l):l.getD i false = false:=by
 have:=(mem_ready.1 hr).1
 simp only [Array.getD] at this ⊢
 split at this
 · rename_i q
   rw [dif_pos q]
   exact this
 · cases this
structure E9 (b:Nat) (X:List (Nat × Obj)) (a0:Act):Prop where
 s1:Sl a0 1 (.pointer (some ⟨b,0,none⟩))
 s3:∃ q t m,Sl a0 3 (.pointer (some ⟨q,0,none⟩)) ∧ (q,Obj.cells #[.int .i64 1,.int .i64 1] t m) ∈ X
 s5:∃ q t m,Sl a0 5 (.pointer (some ⟨q,0,none⟩)) ∧ (q,Obj.cells #[.int .i64 2,.int .i64 1] t m) ∈ X
 s7:∃ q t m,Sl a0 7 (.pointer (some ⟨q,0,none⟩)) ∧ (q,Obj.cells #[.int .i64 0,.int .i64 0] t m) ∈ X
 s8:∃ q t m,Sl a0 8 (.pointer (some ⟨q,0,none⟩)) ∧ (q,Obj.cells #[.int .i64 1,.int .i64 1,.string ⟨#[]⟩,.int .i64 0,.int .i64 0,.slice none 0 0] t m) ∈ X
theorem call_inj:∀ j,j < 30 → ∀ j',j' < 30 → callIx j = callIx j' → j = j':=by decide +kernel
theorem call_lt:∀ j,j < 30 → callIx j < 109 ∧ callIx j ≠ 89 ∧ callIx j ≠ 90 ∧ callIx j ≠ 94 ∧ callIx j ≠ 95:=by decide +kernel
section
variable {ops:Array Oper} {Q:Exit → Act → World → Prop} {b g lc N c A B D i:Nat} {w0 w:World} {own0:Nat → Nat} {X:List (Nat × Obj)} {a0 a:Act} {l:Array Bool}
def I9 (b g lc N:Nat) (w0:World) (own0:Nat → Nat) (X:List (Nat × Obj)) (a0:Act) (l:Array Bool) (a:Act) (w:World):Prop:=∃ c A B D,R9 b g lc N w0 own0 X a0 c A B D l a w
theorem R9.lo_at (h:R9 b g lc N w0 own0 X a0 c A B D l a w) {n:Nat} {v:Value} (hn:n < 56) (h9:n ≠ 9) (hs:Sl a0 n v):Sl a n v:=(h.lo n hn h9).trans hs
theorem R9.mem (h:R9 b g lc N w0 own0 X a0 c A B D l a w) {q:Nat} {ob:Obj} (hx:(q,ob) ∈ X):w.heap[q]? = some ob:=h.cm.has (List.mem_append.2 (Or.inr hx))
theorem keep_same (hl:l.size = 111) (hi:i < 111) (h1:i ≠ 89) (h2:i ≠ 94) (h3:i ≠ 109):keep9 (l.setIfInBounds i true) A B D = keep9 l A B D:=by
 unfold keep9
 rw [lget_set l i 89 (by omega),lget_set l i 94 (by omega),lget_set l i 109 (by omega),if_neg (Ne.symm h1),if_neg (Ne.symm h2),if_neg (Ne.symm h3)]
theorem pure9 (hR:IsReg 9 ops) (h:R9 b g lc N w0 own0 X a0 c A B D l a w) (hl:l.size = 111) (hr:i ∈ Region.ready .any ops l) (hi:i < 111) (hq:((List.range 30).all fun j => callIx j != i) = true) (h1:i ≠ 89) (h2:i ≠ 94) (h3:i ≠ 109)
 (hdA:i = 90 → l.getD 89 false = true) (hdB:i = 95 → l.getD 94 false = true) (hdD:i = 110 → l.getD 109 false = true) (hrun:∀ o,ops[i]? = some o → (execOp a.eval o).run Tryz.prog w = .ok (.value (v9 b A B D i)) w):wpOp Tryz.prog ops Q i (I9 b g lc N w0 own0 X a0 (l.setIfInBounds i true)) a w:=by
 obtain ⟨_,o,ho,_⟩:=mem_ready.1 hr
 obtain ⟨p1,p2⟩:=op_plain (plain9 hR) hi ho
 refine op_value ho p2 (hrun o ho) ?_
 rw [p1]
 refine ⟨c,A,B,D,h.more hl hi _ rfl (fun _ _ _ => rfl) (fun j hj => ?_) hdA hdB hdD ?_ h.cle⟩
 · have:=List.all_eq_true.1 hq j (List.mem_range.2 hj)
   simp only [bne_iff_ne,ne_eq] at this
   rw [lget_set l i _ (by omega),if_neg this]
   exact h.pre j hj
 · rw [keep_same hl hi h1 h2 h3]
   exact h.cm
theorem move9 (hR:IsReg 9 ops) (E:E9 b X a0) (h:R9 b g lc N w0 own0 X a0 c A B D l a w) (hl:l.size = 111) (hr:i ∈ Region.ready .any ops l) (hk:(decide (i < 109) && (((List.range 30).all fun j => callIx j != i) && (i != 89 && (i != 90 && (i != 94 && i != 95))))) = true) (hop:OpIs 9 i (.move (.tmp 1))) (hv:v9 b A B D i = .pointer (some ⟨b,0,none⟩)):wpOp Tryz.prog ops Q i (I9 b g lc N w0 own0 X a0 (l.setIfInBounds i true)) a w:=by
 simp only [Bool.and_eq_true,decide_eq_true_eq,bne_iff_ne,ne_eq] at hk
 obtain ⟨k1,k2,k3,k4,k5,k6⟩:=hk
 refine pure9 hR h hl hr (by omega) k2 k3 k5 (by omega) (fun e => absurd e k4) (fun e => absurd e k6) (fun e => by omega) fun o ho => ?_
 rw [hv,run_move _ (hop.tell hR ho),(h.lo_at (by omega) (by omega) E.s1).eval]
theorem load9 (hR:IsReg 9 ops) (h:R9 b g lc N w0 own0 X a0 c A B D l a w) (hl:l.size = 111) (hr:i ∈ Region.ready .any ops l) (hk:(decide (i < 109) && (((List.range 30).all fun j => callIx j != i) && (i != 89 && (i != 90 && (i != 94 && i != 95))))) = true) (n:Nat) (p f:Int) (hn:n < 9) (hs:∃ q t m,Sl a0 n (.pointer (some ⟨q,0,none⟩)) ∧ (q,Obj.cells #[.int .i64 p,.int .i64 f] t m) ∈ X) (hop:OpIs 9 i (.load 46 (.tmp n))) (hv:v9 b A B D i = .agg #[.int .i64 p,.int .i64 f]):wpOp Tryz.prog ops Q i (I9 b g lc N w0 own0 X a0 (l.setIfInBounds i true)) a w:=by
 simp only [Bool.and_eq_true,decide_eq_true_eq,bne_iff_ne,ne_eq] at hk
 obtain ⟨k1,k2,k3,k4,k5,k6⟩:=hk
 obtain ⟨q,t,m,s1,s2⟩:=hs
 refine pure9 hR h hl hr (by omega) k2 k3 k5 (by omega) (fun e => absurd e k4) (fun e => absurd e k6) (fun e => by omega) fun o ho => ?_
 rw [hv]
 exact run_load46 _ (hop.tell hR ho) q p f (h.lo_at (by omega) (by omega) s1).eval (cell_at (h.mem s2) rfl) (cell_at (h.mem s2) rfl)
theorem num9 (hR:IsReg 9 ops) (E:E9 b X a0) (h:R9 b g lc N w0 own0 X a0 c A B D l a w) (hl:l.size = 111) (hr:i ∈ Region.ready .any ops l) (hk:(decide (i < 109) && (((List.range 30).all fun j => callIx j != i) && (i != 89 && (i != 90 && (i != 94 && i != 95))))) = true) (hop:OpIs 9 i (.load 56 (.tmp 8))) (hv:v9 b A B D i = .agg #[.int .i64 1,.int .i64 1,.string ⟨#[]⟩,.int .i64 0,.int .i64 0,.slice none 0 0]):wpOp Tryz.prog ops Q i (I9 b g lc N w0 own0 X a0 (l.setIfInBounds i true)) a w:=by
 simp only [Bool.and_eq_true,decide_eq_true_eq,bne_iff_ne,ne_eq] at hk
 obtain ⟨k1,k2,k3,k4,k5,k6⟩:=hk
 obtain ⟨q,t,m,s1,s2⟩:=E.s8
 refine pure9 hR h hl hr (by omega) k2 k3 k5 (by omega) (fun e => absurd e k4) (fun e => absurd e k6) (fun e => by omega) fun o ho => ?_
 rw [hv]
 exact run_load56 _ (hop.tell hR ho) q 1 1 ⟨#[]⟩ 0 0 none 0 0 (h.lo_at (by omega) (by omega) s1).eval (cell_at (h.mem s2) rfl) (cell_at (h.mem s2) rfl) (cell_at (h.mem s2) rfl) (cell_at (h.mem s2) rfl) (cell_at (h.mem s2) rfl) (cell_at (h.mem s2) rfl)
theorem build9 (hR:IsReg 9 ops) (h:R9 b g lc N w0 own0 X a0 c A B D l a w) (hl:l.size = 111) (hr:i ∈ Region.ready .any ops l) (hk:(decide (i < 109) && (((List.range 30).all fun j => callIx j != i) && (i != 89 && (i != 90 && (i != 94 && i != 95))))) = true) {x:Op} (hop:OpIs 9 i x) (hrun:∀ o:Oper,o.op = x → (execOp a.eval o).run Tryz.prog w = .ok (.value (v9 b A B D i)) w):wpOp Tryz.prog ops Q i (I9 b g lc N w0 own0 X a0 (l.setIfInBounds i true)) a w:=by
 simp only [Bool.and_eq_true,decide_eq_true_eq,bne_iff_ne,ne_eq] at hk
 obtain ⟨k1,k2,k3,k4,k5,k6⟩:=hk
 exact pure9 hR h hl hr (by omega) k2 k3 k5 (by omega) (fun e => absurd e k4) (fun e => absurd e k6) (fun e => by omega) fun o ho => hrun o (hop.tell hR ho)
theorem call_c (hR:IsReg 9 ops) (h:R9 b g lc N w0 own0 X a0 c A B D l a w) {j:Nat} (hj:j < 30) (hr:callIx j ∈ Region.ready .any ops l) (hp:j = 0 ∨ DepIs 9 (callIx j) (callIx (j - 1))):c = j:=by
 have h1:¬j < c:=fun q => by
  have:=(h.pre j hj).2 q
  rw [ready_not hr] at this
  cases this
 rcases hp with rfl | hp
 · omega
 · by_cases e:j = 0
   · omega
   · have:=(h.pre (j - 1) (by omega)).1 (hp.listed hR hr)
     omega
theorem call_more (hl:l.size = 111) {j:Nat} (hj:j < 30) (h:R9 b g lc N w0 own0 X a0 j A B D l a w) {w':World} {v:Value} (hv:v9 b A B D (callIx j) = v) (hcm:CmAt w0 own0 b g lc N (keep9 l A B D ++ X) (j + 1) w'):I9 b g lc N w0 own0 X a0 (l.setIfInBounds (callIx j) true) (a.put (some (dst9 (callIx j))) v) w':=by
 obtain ⟨q1,q2,q3,q4,q5⟩:=call_lt j hj
 refine ⟨j + 1,A,B,D,h.more hl (by omega) v hv.symm (fun _ _ _ => rfl) (fun j' hj' => ?_) (fun e => absurd e q3) (fun e => absurd e q5) (fun e => by omega) ?_ (by omega)⟩
 · rw [lget_set l _ _ (by omega)]
   by_cases e:callIx j' = callIx j
   · have:=call_inj j' hj' j hj e
     rw [if_pos e]
     constructor
     · intro _;omega
     · intro _;rfl
   · rw [if_neg e,h.pre j' hj']
     have:j' ≠ j:=fun e' => e (by rw [e'])
     omega
 · rw [keep_same hl (by omega) q2 q4 (by omega)]
   exact hcm
theorem c36 (hR:IsReg 9 ops) (h:R9 b g lc N w0 own0 X a0 c A B D l a w) (hl:l.size = 111) (hN:N + 31 ≤ 1000) (hN1:1 ≤ N) (j ix iy:Nat) (hr:callIx j ∈ Region.ready .any ops l) (hj:j < 30) (hp:j = 0 ∨ DepIs 9 (callIx j) (callIx (j - 1))) (s:ByteArray) (hop:OpIs 9 (callIx j) (Op.call { callee:=.value (.func 36),args:=#[.tmp (dst9 ix),.tmp (dst9 iy),.const (.string s)],argTypes:=#[28,46,9] })) (hdx:DepIs 9 (callIx j) ix) (hdy:DepIs 9 (callIx j) iy) (hxi:ix < 111) (hyi:iy < 111)
 (hx:v9 b A B D ix = .pointer (some ⟨b,0,none⟩)) (hy:v9 b A B D iy = .agg #[.int .i64 (cmAt j).hp,.int .i64 (cmAt j).hl]) (hs:s = mk (cmAt j).o.c) (ht:(cmAt j).t = 0) (hv:v9 b A B D (callIx j) = .int .i64 (wantR.getD j 0)):wpOp Tryz.prog ops Q (callIx j) (I9 b g lc N w0 own0 X a0 (l.setIfInBounds (callIx j) true)) a w:=by
 have hc:=call_c hR h hj hr hp
 subst hc
 subst hs
 obtain ⟨_,o,ho,_⟩:=mem_ready.1 hr
 obtain ⟨q1,q2,q3,q4,q5⟩:=call_lt c hj
 obtain ⟨p1,p2⟩:=op_plain (plain9 hR) (by omega) ho
 have e1:=(h.vals ix hxi (hdx.listed hR hr)).eval
 have e2:=(h.vals iy hyi (hdy.listed hR hr)).eval
 refine op_call ho p2 36 [.tmp (dst9 ix),.tmp (dst9 iy),.const (.string (mk (cmAt c).o.c))] _ (hop.tell hR ho) [_,_,_] (by simp only [List.map_cons,List.map_nil,e1,e2,hx,hy];rfl) (runs36 _ _) ?_
 refine (cm_add h.cm hj hN hN1 ht).mono ?_
 rintro e w' ⟨rfl,hcm⟩
 refine ⟨_,rfl,?_⟩
 rw [p1]
 exact call_more hl hj h hv hcm
theorem c37 (hR:IsReg 9 ops) (h:R9 b g lc N w0 own0 X a0 c A B D l a w) (hl:l.size = 111) (j ix iy:Nat) (hr:callIx j ∈ Region.ready .any ops l) (hj:j < 30) (hp:j = 0 ∨ DepIs 9 (callIx j) (callIx (j - 1))) (s:ByteArray) (hop:OpIs 9 (callIx j) (Op.call { callee:=.value (.func 37),args:=#[.tmp (dst9 ix),.tmp (dst9 iy),.const (.string s)],argTypes:=#[28,46,9] })) (hdx:DepIs 9 (callIx j) ix) (hdy:DepIs 9 (callIx j) iy) (hxi:ix < 111) (hyi:iy < 111)
 (hx:v9 b A B D ix = .pointer (some ⟨b,0,none⟩)) (hy:v9 b A B D iy = .agg #[.int .i64 (cmAt j).hp,.int .i64 (cmAt j).hl]) (hs:s = mk (cmAt j).o.c) (ht:(cmAt j).t = 1) (hne:wantR.getD j 0 ≠ 0) (hv:v9 b A B D (callIx j) = .int .i64 (wantR.getD j 0)):wpOp Tryz.prog ops Q (callIx j) (I9 b g lc N w0 own0 X a0 (l.setIfInBounds (callIx j) true)) a w:=by
 have hc:=call_c hR h hj hr hp
 subst hc
 subst hs
 obtain ⟨_,o,ho,_⟩:=mem_ready.1 hr
 obtain ⟨q1,q2,q3,q4,q5⟩:=call_lt c hj
 obtain ⟨p1,p2⟩:=op_plain (plain9 hR) (by omega) ho
 have e1:=(h.vals ix hxi (hdx.listed hR hr)).eval
 have e2:=(h.vals iy hyi (hdy.listed hR hr)).eval
 refine op_call ho p2 37 [.tmp (dst9 ix),.tmp (dst9 iy),.const (.string (mk (cmAt c).o.c))] _ (hop.tell hR ho) [_,_,_] (by simp only [List.map_cons,List.map_nil,e1,e2,hx,hy];rfl) (runs37 _ _) ?_
 refine (cm_rem h.cm hj ht hne).mono ?_
 rintro e w' ⟨rfl,hcm⟩
 refine ⟨_,rfl,?_⟩
 rw [p1]
 exact call_more hl hj h hv hcm
theorem c27 (hR:IsReg 9 ops) (h:R9 b g lc N w0 own0 X a0 c A B D l a w) (hl:l.size = 111) (j ix iy:Nat) (hr:callIx j ∈ Region.ready .any ops l) (hj:j < 30) (hp:j = 0 ∨ DepIs 9 (callIx j) (callIx (j - 1))) (hop:OpIs 9 (callIx j) (Op.call { callee:=.value (.func 27),args:=#[.tmp (dst9 ix),.tmp (dst9 iy)],argTypes:=#[28,46] })) (hdx:DepIs 9 (callIx j) ix) (hdy:DepIs 9 (callIx j) iy) (hxi:ix < 111) (hyi:iy < 111)
 (hx:v9 b A B D ix = .pointer (some ⟨b,0,none⟩)) (hy:v9 b A B D iy = .agg #[.int .i64 (cmAt j).hp,.int .i64 (cmAt j).hl]) (ht:(cmAt j).t = 3) (hne:wantR.getD j 0 ≠ 0) (hv:v9 b A B D (callIx j) = .int .i64 (wantR.getD j 0)):wpOp Tryz.prog ops Q (callIx j) (I9 b g lc N w0 own0 X a0 (l.setIfInBounds (callIx j) true)) a w:=by
 have hc:=call_c hR h hj hr hp
 subst hc
 obtain ⟨_,o,ho,_⟩:=mem_ready.1 hr
 obtain ⟨q1,q2,q3,q4,q5⟩:=call_lt c hj
 obtain ⟨p1,p2⟩:=op_plain (plain9 hR) (by omega) ho
 have e1:=(h.vals ix hxi (hdx.listed hR hr)).eval
 have e2:=(h.vals iy hyi (hdy.listed hR hr)).eval
 refine op_call ho p2 27 [.tmp (dst9 ix),.tmp (dst9 iy)] _ (hop.tell hR ho) [_,_] (by simp only [List.map_cons,List.map_nil,e1,e2,hx,hy];rfl) (runs27 _ _) ?_
 refine (cm_des h.cm hj ht hne).mono ?_
 rintro e w' ⟨rfl,hcm⟩
 refine ⟨_,rfl,?_⟩
 rw [p1]
 exact call_more hl hj h hv hcm
theorem c38 (hR:IsReg 9 ops) (h:R9 b g lc N w0 own0 X a0 c A B D l a w) (hl:l.size = 111) (j ix iy iz:Nat) (hr:callIx j ∈ Region.ready .any ops l) (hj:j < 30) (hp:j = 0 ∨ DepIs 9 (callIx j) (callIx (j - 1))) (s t:ByteArray) (hop:OpIs 9 (callIx j) (Op.call { callee:=.value (.func 38),args:=#[.tmp (dst9 ix),.tmp (dst9 iy),.const (.string s),.const (.string t),.tmp (dst9 iz)],argTypes:=#[28,46,9,9,56] })) (hdx:DepIs 9 (callIx j) ix) (hdy:DepIs 9 (callIx j) iy) (hdz:DepIs 9 (callIx j) iz) (hxi:ix < 111) (hyi:iy < 111) (hzi:iz < 111)
 (hx:v9 b A B D ix = .pointer (some ⟨b,0,none⟩)) (hy:v9 b A B D iy = .agg #[.int .i64 (cmAt j).hp,.int .i64 (cmAt j).hl]) (hs:s = mk (cmAt j).o.c) (hs':t = mk (cmAt j).o.f) (ht:(cmAt j).t = 2) (va:Option Addr) (vc:Nat) (hz:v9 b A B D iz = .agg #[.int .i64 (cmAt j).o.k,.int .i64 (cmAt j).o.n,.string (mk (cmAt j).o.s),.int .i64 (cmAt j).o.p,.int .i64 (cmAt j).o.l,.slice va (cmAt j).o.ls.length vc]) (hvl:l.getD iz false = true → IntsAt w (.slice va (cmAt j).o.ls.length vc) (cmAt j).o.ls) (hv:v9 b A B D (callIx j) = .int .i64 (wantR.getD j 0)):wpOp Tryz.prog ops Q (callIx j) (I9 b g lc N w0 own0 X a0 (l.setIfInBounds (callIx j) true)) a w:=by
 have hc:=call_c hR h hj hr hp
 subst hc
 subst hs hs'
 obtain ⟨_,o,ho,_⟩:=mem_ready.1 hr
 obtain ⟨q1,q2,q3,q4,q5⟩:=call_lt c hj
 obtain ⟨p1,p2⟩:=op_plain (plain9 hR) (by omega) ho
 have e1:=(h.vals ix hxi (hdx.listed hR hr)).eval
 have e2:=(h.vals iy hyi (hdy.listed hR hr)).eval
 have e3:=(h.vals iz hzi (hdz.listed hR hr)).eval
 refine op_call ho p2 38 [.tmp (dst9 ix),.tmp (dst9 iy),.const (.string (mk (cmAt c).o.c)),.const (.string (mk (cmAt c).o.f)),.tmp (dst9 iz)] _ (hop.tell hR ho) [_,_,_,_,_] (by simp only [List.map_cons,List.map_nil,e1,e2,e3,hx,hy,hz];rfl) (runs38 _ _) ?_
 refine (cm_set h.cm hj ht va vc (hvl (hdz.listed hR hr))).mono ?_
 rintro e w' ⟨rfl,hcm⟩
 refine ⟨_,rfl,?_⟩
 rw [p1]
 exact call_more hl hj h hv hcm
end
end Go.Proofs.YthkbeaffkcfgiabGreatDoor
