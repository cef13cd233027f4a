import Derived.Test.YthkbeaffkcfgiabGreatDoorR35
import Derived.Test.YthkbeaffkcfgiabGreatDoorR36
import Derived.Test.YthkbeaffkcfgiabGreatDoorR22
import Derived.Test.YthkbeaffkcfgiabGreatDoorR15
set_option linter.unusedSimpArgs false
set_option linter.unusedVariables false
namespace Go.Proofs.YthkbeaffkcfgiabGreatDoor
open Go.RowKit
theorem results_row_tmp {P:Program} {fn:Func} {p u:Tmp} {ty:TypeId} (h:fn.results = #[.cell p ty,.tmp u]) (tmps:Array Value) (w:World) (g:Nat) (t:TypeId) (cs:Array Value) (fr:Nat × Nat) (d:TypeDesc)
 (hp:tmps.getD p undef = .pointer (some ⟨g,0,none⟩)) (hg:w.heap[g]? = some (.cells cs t fr))
 (hu:P.underlying ty = some d) (hd:(match d with | .struct _ | .array _ _ => true | _ => false) = true) (hi:(P.info? ty).map (·.size) = some cs.size) (v:Value) (hv:tmps.getD u undef = v) :
 (results fn tmps).run P w = .ok (.tuple #[.agg cs,v]) w:=by
 have hp':tmps[p]?.getD undef = .pointer (some ⟨g,0,none⟩):=by simpa using hp
 have hv':tmps[u]?.getD undef = v:=by simpa using hv
 simp [results,h,hp',hv',asAddr,run_loadVar_row w g t ty cs fr d hg hu hd hi]
def getX (L:List CompS) (S:St) (p l:Int) (nm fn:List UInt8):FV:=S.vals (p - 1).toNat (findFieldP L S p l nm fn).1.toNat (findFieldP L S p l nm fn).2.1.toNat
def getK (L:List CompS) (S:St) (p l:Int) (nm fn:List UInt8):Nat:=kindAt L (findFieldP L S p l nm fn).1.toNat (findFieldP L S p l nm fn).2.1.toNat
set_option maxHeartbeats 600000 in
set_option maxRecDepth 100000 in
theorem get_w {own:Nat → Nat} {b g lc N:Nat} {L:List CompS} {S:St} {w:World} (hW:WT w own b g lc N L S) (p l:Int) (nm fn:List UInt8) (h0:(findFieldP L S p l nm fn).2.2 = 0) (hx:(getX L S p l nm fn).ls.length ≤ 100) :
 Calls Tryz.prog 41 #[.pointer (some ⟨b,0,none⟩),.agg #[.int .i64 p,.int .i64 l],.string (mk nm),.string (mk fn)] w fun e w' => ∃ la ln lc,e = .returned (.tuple #[.agg #[.int .i64 (getK L S p l nm fn),.int .i64 (gN (getK L S p l nm fn) (getX L S p l nm fn)),.string (mk (gS (getK L S p l nm fn) (getX L S p l nm fn))),.int .i64 (gP (getK L S p l nm fn) (getX L S p l nm fn)),.int .i64 (gQ (getK L S p l nm fn) (getX L S p l nm fn)),.slice la ln lc],.int .i64 0]) ∧ Below w.heap.size w w':=by
 obtain ⟨V,hV⟩:∃ V,V = (w.alloc (.cells #[.int .i64 p,.int .i64 l] 46)).alloc (.cells #[.int .i64 0,.int .i64 0,.string ⟨#[]⟩,.int .i64 0,.int .i64 0,.slice none 0 0] 56):=⟨_,rfl⟩
 have hB:Below w.heap.size w V:=by rw [hV];exact ((Below.refl _ _).alloc (Nat.le_refl _) _).alloc (by simp) _
 have hs:V.heap.size = w.heap.size + 2:=by rw [hV];simp
 have hW1:=hW.below hB
 have HK:Hid (∀ W,W = V → Calls Tryz.prog 71 #[.pointer (some ⟨b,0,none⟩),.agg #[.int .i64 p,.int .i64 l],.string (mk nm),.string (mk fn)] W fun e w' => e = .returned (.tuple #[.int .i64 (findFieldP L S p l nm fn).1,.int .i64 (findFieldP L S p l nm fn).2.1,.int .i64 (findFieldP L S p l nm fn).2.2]) ∧ Below V.heap.size V w'):=fun W hWe => by rw [hWe];exact findField_wt hW1 p l nm fn
 obtain ⟨i,kk,f,hi,hp,hti,hbi,hkL,hfL,hff,hbit⟩:=findFieldP_ok h0
 have e1:getX L S p l nm fn = S.vals i kk f:=by unfold getX;rw [hff,hp];simp
 have e2:getK L S p l nm fn = kindAt L kk f:=by unfold getK;rw [hff];simp
 rw [e1] at hx
 rw [e1,e2]
 rw [hff] at HK
 dsimp only at HK
 subst hp
 have hA2:Below (w.heap.size + 1) (w.alloc (.cells #[.int .i64 ((i:Int) + 1),.int .i64 l] 46)) V:=by rw [hV];exact (Below.refl _ _).alloc (by simp) _
 have hn6:=hW.lay.few
 have hkd:1 ≤ kindAt L kk f ∧ kindAt L kk f ≤ 5:=by
  rw [kindAt_get L kk f hkL hfL]
  exact ((hW.lay.comp kk hkL).1.2.2 _ (List.getElem_mem hfL)).2
 have HV:Hid (∀ W,Below V.heap.size V W → W.cell? ⟨w.heap.size,0,none⟩ = some (.int .i64 ((i:Int) + 1)) ∧ W.cell? ⟨w.heap.size,1,none⟩ = some (.int .i64 l)):=fun W hb => by
  have hblk0:W.heap[w.heap.size]? = some (.cells #[.int .i64 ((i:Int) + 1),.int .i64 l] 46 (0,0)):=(hb.block _ (by omega)).trans ((hA2.block _ (by omega)).trans (heap_alloc_at rfl _))
  exact ⟨by rw [cell_row hblk0];rfl,by rw [cell_row hblk0];rfl⟩
 have HBk:Hid (∀ W,Below V.heap.size V W → W.heap[w.heap.size + 1]? = some (.cells #[.int .i64 0,.int .i64 0,.string ⟨#[]⟩,.int .i64 0,.int .i64 0,.slice none 0 0] 56 (0,0))):=fun W hb => (hb.block _ (by omega)).trans (by rw [hV];exact heap_alloc_at (by simp) _)
 obtain ⟨tb,hTb⟩:=hW.tabOf i hi hti
 have HTo:Hid (∀ W,Below V.heap.size V W → Calls Tryz.prog 74 #[.pointer (some ⟨b,0,none⟩),.agg #[.int .i64 ((i:Int) + 1),.int .i64 l]] W fun e w' => e = .returned (.pointer (some ⟨tb,0,none⟩)) ∧ Below V.heap.size V w'):=fun W hb =>
  (tableOf_wt own b g lc N i tb l L S W (hW1.below hb) hi hti ((hTb.below hB).below hb)).mono fun _ _ ⟨h1,h2⟩ => ⟨h1,hb.trans (h2.mono hb.size)⟩
 have HGt:Hid (∀ W,Below V.heap.size V W → Calls Tryz.prog 79 #[.pointer (some ⟨tb,0,none⟩),.agg #[.int .i64 ((i:Int) + 1),.int .i64 l],.int .i64 kk,.int .i64 f] W fun e w' => ∃ la ln lc,e = .returned (.agg #[.int .i64 (kindAt L kk f),.int .i64 (gN (kindAt L kk f) (S.vals i kk f)),.string (mk (gS (kindAt L kk f) (S.vals i kk f))),.int .i64 (gP (kindAt L kk f) (S.vals i kk f)),.int .i64 (gQ (kindAt L kk f) (S.vals i kk f)),.slice la ln lc]) ∧ Below V.heap.size V w'):=fun W hb => by
  have hW2:=hW1.below hb
  obtain ⟨bm,nn,m,r1,r2,r3,r4⟩:=hW2.tabAt i hi hti ((hTb.below hB).below hb)
  have hfk:f < ((kinds L).getD kk []).length:=by rw [kinds_get L kk hkL];simpa using hfL
  refine (get_tabC own (32 * (1 + S.cp i)) tb (S.cp i) (kinds L) _ _ ((i:Int) + 1) l kk f (kindAt L kk f) (S.vals i kk f) (S.lv i kk f) W r4 hW.lay.kl (by omega) (by unfold hasC;rw [hbit];simp [kinds,hkL]) (kind_get hfk) hkd (Nat.le_trans (ents_lenS _ _) (by omega)) (ents_sortS _ _) (ahead_in _ i hi hti) (fun o ho => ?_) (ints_own (hW2.lists i hi kk f).1) hx).mono ?_
  · exact cells_row S.bg (S.sel (S.cp i)) (fun i => fvCells (kindAt L kk f) (S.vals i kk f) (S.lv i kk f)) (kSz (kindAt L kk f)) i o hi (by simp [St.sel,hti]) (fun j => fvCells_len _ _ _) ho
  · rintro e w' ⟨la,ln,lc',rfl,_,h2⟩
    exact ⟨la,ln,lc',rfl,hb.trans (h2.mono hb.size)⟩
 clear hW1 hTb hbit hff h0 hti hbi hkd hW hx e1 e2 hA2
 generalize S.vals i kk f = x at HGt ⊢
 generalize kindAt L kk f = kd at HGt ⊢
 have HVe:Hid (_ = V):=hV.symm
 have HB0:Hid (Below w.heap.size w V):=hB
 have HVs:Hid (V.heap.size = w.heap.size + 2):=hs
 clear hV hB hs
 go_enter Tryz.func41,Tryz.ntmps41
 go_wp2_with (go_at_call 71;refine (HK.out _ HVe.out).mono ?_;rintro e w1 ⟨rfl,hb1⟩;have HB1:Hid (Below V.heap.size V w1):=hb1;clear hb1)
 obtain ⟨u0,u1⟩:=HV.out _ HB1.out
 go_region_with (first | (go_at_call 74;refine (HTo.out _ HB1.out.drew).mono ?_;rintro e w2 ⟨rfl,hb2⟩;have HB2:Hid (Below V.heap.size V w2):=hb2;clear hb2;obtain ⟨v0,v1⟩:=HV.out _ HB2.out) | (go_at_call 79;refine (HGt.out _ HB2.out).mono ?_;rintro e w3 ⟨la,ln,lc',rfl,hb3⟩;have HB3:Hid (Below V.heap.size V w3):=hb3;clear hb3;have hblk:=HBk.out _ HB3.out;have c0:w3.cell? ⟨w.heap.size + 1,0,none⟩ = some (.int .i64 0):=(by rw [cell_row hblk];rfl);have c1:w3.cell? ⟨w.heap.size + 1,1,none⟩ = some (.int .i64 0):=(by rw [cell_row hblk];rfl);have c2:w3.cell? ⟨w.heap.size + 1,2,none⟩ = some (.string ⟨#[]⟩):=(by rw [cell_row hblk];rfl);have c3:w3.cell? ⟨w.heap.size + 1,3,none⟩ = some (.int .i64 0):=(by rw [cell_row hblk];rfl);have c4:w3.cell? ⟨w.heap.size + 1,4,none⟩ = some (.int .i64 0):=(by rw [cell_row hblk];rfl);have c5:w3.cell? ⟨w.heap.size + 1,5,none⟩ = some (.slice none 0 0):=(by rw [cell_row hblk];rfl);have f0:=frozen_row hblk 0;have f1:=frozen_row hblk 1;have f2:=frozen_row hblk 2;have f3:=frozen_row hblk 3;have f4:=frozen_row hblk 4;have f5:=frozen_row hblk 5;clear hblk))
 all_goals clear c0 c1 c2 c3 c4 c5 f0 f1 f2 f3 f4 f5
 all_goals go_wp2_with fail
 all_goals (refine bodyPost_ret_by (v:=.tuple #[.agg #[.int .i64 kd,.int .i64 (gN kd x),.string (mk (gS kd x)),.int .i64 (gP kd x),.int .i64 (gQ kd x),.slice la ln lc'],.int .i64 0]) ?_ rfl ⟨la,ln,lc',rfl,?_⟩)
 all_goals first
  | exact results_row_tmp (p:=8) (u:=9) (ty:=56) rfl _ _ (w.heap.size + 1) 56 _ (0,0) _ rfl (six_block (HBk.out _ HB3.out) _ _ _ _ _ _) Tryz.underlying56 rfl (by kernel_rfl) _ rfl
  | exact six_below (HB0.out.trans (HB3.out.mono (by rw [HVs.out];omega))) (by omega) _ _ _ _ _ _
theorem nilSet1 (cb:Nat) (w:World):(nilAhead 564 (kPtr 1) (.pointer (some ⟨cb,0,none⟩)) "Set").run Tryz.prog w = .ok (some false) w:=by kernel_rfl
theorem nilSet2 (cb:Nat) (w:World):(nilAhead 564 (kPtr 2) (.pointer (some ⟨cb,0,none⟩)) "Set").run Tryz.prog w = .ok (some false) w:=by kernel_rfl
theorem nilSet3 (cb:Nat) (w:World):(nilAhead 564 (kPtr 3) (.pointer (some ⟨cb,0,none⟩)) "Set").run Tryz.prog w = .ok (some false) w:=by kernel_rfl
theorem nilSet4 (cb:Nat) (w:World):(nilAhead 564 (kPtr 4) (.pointer (some ⟨cb,0,none⟩)) "Set").run Tryz.prog w = .ok (some false) w:=by kernel_rfl
theorem nilSet5 (cb:Nat) (w:World):(nilAhead 564 (kPtr 5) (.pointer (some ⟨cb,0,none⟩)) "Set").run Tryz.prog w = .ok (some false) w:=by kernel_rfl
theorem nilSet (kd:Nat) (h1:1 ≤ kd) (h5:kd ≤ 5) (cb:Nat) (w:World):(nilAhead 564 (kPtr kd) (.pointer (some ⟨cb,0,none⟩)) "Set").run Tryz.prog w = .ok (some false) w:=by
 have h:kd = 1 ∨ kd = 2 ∨ kd = 3 ∨ kd = 4 ∨ kd = 5:=by omega
 rcases h with rfl | rfl | rfl | rfl | rfl
 · exact nilSet1 cb w
 · exact nilSet2 cb w
 · exact nilSet3 cb w
 · exact nilSet4 cb w
 · exact nilSet5 cb w
theorem fv_got (kd:Nat) (x:FV) (v:Value):fvCells kd ⟨gN kd x,gS kd x,gP kd x,gQ kd x,gL kd x⟩ v = fvCells kd x v:=by
 unfold fvCells gN gS gP gQ
 by_cases h1:kd = 1
 · simp [h1]
 · by_cases h2:kd = 2
   · subst h2
     simp
     split <;> simp_all
   · by_cases h3:kd = 3
     · simp [h3]
     · by_cases h4:kd = 4
       · simp [h4]
       · simp [h1,h2,h3,h4]
theorem gS_len (kd:Nat) (x:FV) (h:x.s.length ≤ 1000):(gS kd x).length ≤ 1000:=by unfold gS;split <;> simp [h]
theorem gL_len (kd:Nat) (x:FV) (h:x.ls.length ≤ 100):(gL kd x).length ≤ 100:=by unfold gL;split <;> simp [h]
set_option maxHeartbeats 500000 in
set_option maxRecDepth 100000 in
theorem take1_yes {F:Nat → Prop} (own:Nat → Nat) (tb:Nat) (ev:Value) (ents:List (Int × Int)) (base2 tb2 s2:Nat) (cks:List (List Nat)) (ents2:List (Int × Int)) (xs2:Nat → Nat → List Value) (p lf:Int) (k f kd cb fb bx hb:Nat) (xs:List Value) (x:FV) (v:Value) (W:World)
 (hF:TabC W own base2 tb2 s2 cks ents2 xs2) (hkl:∀ k,(cks.getD k []).length ≤ 4) (hk:k < 6) (hh:hasC s2 cks k = true) (hf:(cks.getD k [])[f]? = some kd) (hkd:1 ≤ kd ∧ kd ≤ 5) (hl2:ents2.length ≤ 99) (hsort2:ents2.Pairwise fun a b => a.1 < b.1) (hin2:ahead ents2 p < ents2.length)
 (hrow:∀ o,o < kSz kd → (xs2 k f)[ahead ents2 p * kSz kd + o]? = (fvCells kd x v)[o]?) (hv:IntsAt W v x.ls) (hxl:x.ls.length ≤ 100) (hxs:x.s.length ≤ 1000)
 (hc:W.cell? ⟨tb,0,none⟩ = some ev) (hE:W.ownsRow 0 46 2 ev ents.length (eCells ents)) (hl:ents.length ≤ 99) (hsort:ents.Pairwise fun a b => a.1 < b.1) (hin:ahead ents p < ents.length) (hC:ColAt W F cb (kStr kd) (kElt kd) (kSz kd) ents.length xs)
 (b0:W.cell? ⟨fb,0,none⟩ = some (.pointer (some ⟨tb2,0,none⟩))) (b1:W.cell? ⟨bx,0,none⟩ = some (.pointer (some ⟨tb,0,none⟩))) (b2:W.cell? ⟨hb,0,none⟩ = some (.int .i64 p)) (b3:W.cell? ⟨hb,1,none⟩ = some (.int .i64 lf)) (nfb:¬ F fb) (nbx:¬ F bx) (nhb:¬ F hb) :
 Calls Tryz.prog 196 #[.int .i64 k,.int .i64 f,colVal kd cb,.pointer (some ⟨fb,0,none⟩),.pointer (some ⟨bx,0,none⟩),.pointer (some ⟨hb,0,none⟩)] W fun e w' => e = .returned (.tuple #[]) ∧ Turns W w' F ∧ ∃ v',ListNew w' W.heap.size v' (gL kd x) ∧ ColAt w' F cb (kStr kd) (kElt kd) (kSz kd) ents.length (putAt xs (ahead ents p * kSz kd) (fvCells kd x v')):=by
 obtain ⟨ev2,sl2,g,c,cb2,h1,h2,h3,h4,h5,h6,h7,h8,h9,h10⟩:=hF.col hkl k f kd hk hh hf
 have hfl:f < (cks.getD k []).length:=(List.getElem?_eq_some_iff.1 hf).1
 have hn4:=hkl k
 have hck:W.cell? ⟨tb2,1 + k,none⟩ = some (.slice (some ⟨g,0,none⟩) (cks.getD k []).length c):=by rw [h3 k hk,h4]
 have hfb:fb < W.heap.size:=World.block_lt_of_cell? _ _ b0
 have hbx:bx < W.heap.size:=World.block_lt_of_cell? _ _ b1
 have hhb:hb < W.heap.size:=World.block_lt_of_cell? _ _ b2
 obtain ⟨r,hr⟩:∃ r,r = ahead ents p:=⟨_,rfl⟩
 have HBx:Hid (∀ w',Below W.heap.size W w' → w'.cell? ⟨fb,0,none⟩ = some (.pointer (some ⟨tb2,0,none⟩)) ∧ w'.cell? ⟨bx,0,none⟩ = some (.pointer (some ⟨tb,0,none⟩)) ∧ w'.cell? ⟨hb,0,none⟩ = some (.int .i64 p) ∧ w'.cell? ⟨hb,1,none⟩ = some (.int .i64 lf)):=fun w' hw => ⟨(hw.cell (p:=⟨fb,0,none⟩) hfb).trans b0,(hw.cell (p:=⟨bx,0,none⟩) hbx).trans b1,(hw.cell (p:=⟨hb,0,none⟩) hhb).trans b2,(hw.cell (p:=⟨hb,1,none⟩) hhb).trans b3⟩
 have HRow:Hid (∀ w',Below W.heap.size W w' → Calls Tryz.prog 130 #[.pointer (some ⟨tb,0,none⟩),.agg #[.int .i64 p,.int .i64 lf]] w' fun e w2 => e = .returned (.int .i64 r) ∧ Below W.heap.size W w2):=fun w' hw => by
  have htb:tb < W.heap.size:=World.block_lt_of_cell? _ _ hc
  rw [hr]
  exact (row_any tb ev ents p lf w' ((hw.cell (p:=⟨tb,0,none⟩) htb).trans hc) ((own_ents hE).below hw) (by omega) hsort).mono fun _ _ ⟨q1,q2⟩ => ⟨q1,hw.trans (q2.mono hw.size)⟩
 have HGet:Hid (∀ w',Below W.heap.size W w' → Calls Tryz.prog 79 #[.pointer (some ⟨tb2,0,none⟩),.agg #[.int .i64 p,.int .i64 lf],.int .i64 k,.int .i64 f] w' fun e w2 => ∃ la ln lc,e = .returned (.agg #[.int .i64 kd,.int .i64 (gN kd x),.string (mk (gS kd x)),.int .i64 (gP kd x),.int .i64 (gQ kd x),.slice la ln lc]) ∧ Below W.heap.size W w2 ∧
  Hid (Calls Tryz.prog (setFn kd) #[.pointer (some ⟨cb,0,none⟩),.int .i64 r,.agg #[.int .i64 kd,.int .i64 (gN kd x),.string (mk (gS kd x)),.int .i64 (gP kd x),.int .i64 (gQ kd x),.slice la ln lc]] w2 fun e w3 => e = .returned (.tuple #[]) ∧ Hid (Turns W w3 F ∧ ∃ v',ListNew w3 W.heap.size v' (gL kd x) ∧ ColAt w3 F cb (kStr kd) (kElt kd) (kSz kd) ents.length (putAt xs (r * kSz kd) (fvCells kd x v'))) ∧ Hid (w3.cell? ⟨fb,0,none⟩ = some (.pointer (some ⟨tb2,0,none⟩)) ∧ w3.cell? ⟨bx,0,none⟩ = some (.pointer (some ⟨tb,0,none⟩)) ∧ w3.cell? ⟨hb,0,none⟩ = some (.int .i64 p) ∧ w3.cell? ⟨hb,1,none⟩ = some (.int .i64 lf)))):=fun w' hw => by
  refine (get_tabC own base2 tb2 s2 cks ents2 xs2 p lf k f kd x v w' (hF.turn hkl fun j hj _ _ => ⟨hw.block j hj,rfl⟩) hkl hk hh hf hkd hl2 hsort2 hin2 hrow (hv.below hw) hxl).mono ?_
  rintro e w2 ⟨la,ln,lc,rfl,q1,q2⟩
  have hb2:Below W.heap.size W w2:=hw.trans (q2.mono hw.size)
  refine ⟨la,ln,lc,rfl,hb2,?_⟩
  have hC2:=hC.turn (W':=w2) (F':=F) fun j hj hjl => ⟨hb2.block j hjl,hj⟩
  refine (setcol_any kd hkd.1 hkd.2 cb ents.length r xs kd (gN kd x) (gS kd x) (gP kd x) (gQ kd x) (.slice la ln lc) (gL kd x) w2 hC2 (by rw [hr];exact hin) (by omega) (gS_len kd x hxs) (gL_len kd x hxl) (fun _ => ints_own q1)).mono ?_
  rintro e w3 ⟨rfl,t1,v',t2,t3⟩
  have key:∀ j o,j < W.heap.size → ¬ F j → w3.cell? ⟨j,o,none⟩ = w2.cell? ⟨j,o,none⟩:=fun j o hj hn => World.cell?_of_block (a:=⟨j,o,none⟩) (t1.block j (by have:=hb2.size;omega) hn)
  obtain ⟨z0,z1,z2,z3⟩:=HBx.out w2 hb2
  refine ⟨rfl,⟨(Turns.ofBelow _ hb2).trans' t1,v',?_,?_⟩,(key _ _ hfb nfb).trans z0,(key _ _ hbx nbx).trans z1,(key _ _ hhb nhb).trans z2,(key _ _ hhb nhb).trans z3⟩
  · have e1:(if kd = 5 then gL kd x else []) = gL kd x:=by unfold gL;split <;> rfl
    rw [e1] at t2
    exact own_base t2 hb2.size
  · rw [fv_got] at t3
    exact t3
 have hIv:=callSet_any kd hkd.1 hkd.2 cb
 have hNa:=nilSet kd hkd.1 hkd.2 cb
 rw [← hr]
 generalize (cks.getD k []).length = nk at hck hfl hn4
 have hfI:(f:Int) < (nk:Int):=by omega
 have hk6:(k:Int) < 6:=by omega
 clear hF hrow hv hE hsort hsort2 hin hin2 hC h1 h2 h3 h4 h5 h6 h9 h10 hr hc hf hh
 have hmf:∀ (fn:Fn) (first cap:Array Value) (w:World),(Instr.makeFunc fn first cap).run Tryz.prog w = .ok (.func fn first cap) w:=fun _ _ _ _ => rfl
 go_enter Tryz.func196,Tryz.ntmps196
 go_wp2_with fail
 go_region_held3 (fun w' => w'.cell? ⟨fb,0,none⟩ = some (.pointer (some ⟨tb2,0,none⟩)) ∧ w'.cell? ⟨bx,0,none⟩ = some (.pointer (some ⟨tb,0,none⟩)) ∧ w'.cell? ⟨hb,0,none⟩ = some (.int .i64 p) ∧ w'.cell? ⟨hb,1,none⟩ = some (.int .i64 lf)) ((first | exact HS4.out | exact HBx.out _ HB3.out | exact HBx.out _ HB2.out | exact HBx.out _ (Below.refl _ _).drew | exact HBx.out _ (Below.refl _ _))) (first
  | (go_at_call 130;refine (HRow.out _ (Below.refl _ _).drew).mono ?_;rintro e w2 ⟨rfl,hb2⟩;have HB2:Hid (Below W.heap.size W w2):=hb2;clear hb2)
  | (go_at_call 79;refine (HGet.out _ HB2.out).mono ?_;rintro e w3 ⟨la,ln,lc,rfl,hb3,HSet⟩;have HB3:Hid (Below W.heap.size W w3):=hb3;clear hb3)
  | (refine step_invoke2 rfl (.tmp 29) (.tmp 21) (.tmp 26) "Set" 3 56 rfl (colVal kd cb) (.int .i64 r) (.agg #[.int .i64 kd,.int .i64 (gN kd x),.string (mk (gS kd x)),.int .i64 (gP kd x),.int .i64 (gQ kd x),.slice la ln lc]) (by simp [Act.eval,Act.put]) (by simp [Act.eval,Act.put]) (by simp [Act.eval,Act.put]) (setFn kd) _ (hIv _ _ _) ?_;refine HSet.out.mono ?_;rintro e w4 ⟨rfl,HP,HS4⟩;refine ⟨_,rfl,?_⟩))
 all_goals go_end0
 all_goals exact ⟨rfl,HP.out⟩
set_option maxHeartbeats 500000 in
set_option maxRecDepth 100000 in
theorem take1_no (tb2:Nat) (k f fb bx hb:Nat) (c:Value) (W:World) (hk:k < 6) (b0:W.cell? ⟨fb,0,none⟩ = some (.pointer (some ⟨tb2,0,none⟩))) (hc:W.cell? ⟨tb2,1 + k,none⟩ = some (.slice none 0 0)) :
 Calls Tryz.prog 196 #[.int .i64 k,.int .i64 f,c,.pointer (some ⟨fb,0,none⟩),.pointer (some ⟨bx,0,none⟩),.pointer (some ⟨hb,0,none⟩)] W fun e w' => e = .returned (.tuple #[]) ∧ w' = W:=by
 have hk6:(k:Int) < 6:=by omega
 have hf0:decide ((f:Int) < 0) = false:=decide_eq_false (by omega)
 go_enter Tryz.func196,Tryz.ntmps196
 go_wp2
 go_end0
 exact ⟨rfl,rfl⟩
theorem runs196 (args:Array Value) (w:World):(callFunc 196 args).run Tryz.prog w = .ok (.enter 196 args) w:=by kernel_rfl
def takenX (s2:Nat) (cks:List (List Nat)) (r:Nat) (xs:Nat → Nat → List Value) (x:Nat → Nat → FV) (lv:Nat → Nat → Value):Nat → Nat → List Value:=fun k f =>
 if hasC s2 cks k then putAt (xs k f) (r * kSz ((cks.getD k []).getD f 0)) (fvCells ((cks.getD k []).getD f 0) (x k f) (lv k f)) else xs k f
theorem takenX_same (s2:Nat) (cks:List (List Nat)) (r:Nat) (xs:Nat → Nat → List Value) (x:Nat → Nat → FV) (lv lv':Nat → Nat → Value) (k f:Nat) (h:lv k f = lv' k f):takenX s2 cks r xs x lv k f = takenX s2 cks r xs x lv' k f:=by unfold takenX;rw [h]
theorem mixed2_lv (s2:Nat) (cks:List (List Nat)) (r:Nat) (xs:Nat → Nat → List Value) (x:Nat → Nat → FV) (lv:Nat → Nat → Value) (k f:Nat) (v:Value):mixed2 xs (takenX s2 cks r xs x (upd2 lv k f v)) k f = mixed2 xs (takenX s2 cks r xs x lv) k f:=by
 funext a b
 unfold mixed2
 split
 · rename_i h
   refine takenX_same _ _ _ _ _ _ _ a b ?_
   unfold upd2
   rw [if_neg (by omega)]
 · rfl
theorem ColsAt.eqv {W:World} {own:Nat → Nat} {base k:Nat} {v:Value} {ks cbs:List Nat} {n:Nat → Nat} {xs xs':Nat → List Value} (h:ColsAt W own base k v ks cbs n xs) (he:∀ f,f < ks.length → xs' f = xs f):ColsAt W own base k v ks cbs n xs' :=
 ⟨h.len,h.row,h.rowB,fun f hf hf' => by rw [he f hf];exact h.col f hf hf'⟩
theorem TabC.eqv {W:World} {own:Nat → Nat} {base tb s:Nat} {cks:List (List Nat)} {ents:List (Int × Int)} {xs xs':Nat → Nat → List Value} (h:TabC W own base tb s cks ents xs) (he:∀ k f,k < 6 → hasC s cks k = true → f < (cks.getD k []).length → xs' k f = xs k f):TabC W own base tb s cks ents xs':=by
 obtain ⟨h1,ev,sl,h2,h3,h4,h5⟩:=h
 refine ⟨h1,ev,sl,h2,h3,h4,fun k hk => ?_⟩
 have:=h5 k hk
 split
 · rename_i hq
   rw [if_pos hq] at this
   obtain ⟨cbs,hc⟩:=this
   exact ⟨cbs,hc.eqv fun f hf => he k f hk hq hf⟩
 · rename_i hq
   rw [if_neg hq] at this
   exact this
def TakeInv (w V:World) (own:Nat → Nat) (base tb s s2:Nat) (cks:List (List Nat)) (ents:List (Int × Int)) (r:Nat) (xs:Nat → Nat → List Value) (x:Nat → Nat → FV) (k f:Nat) (W:World):Prop :=
 Turns V W (fun b => ∃ k f,k < 6 ∧ f < 4 ∧ own b = base + lCol k f) ∧ ∃ lv,TabC W own base tb s cks ents (mixed2 xs (takenX s2 cks r xs x lv) k f) ∧
  ∀ k' f',hasC s2 cks k' = true → f' < (cks.getD k' []).length → (k' < k ∨ (k' = k ∧ f' < f)) → hasC s cks k' = true → ListNew W w.heap.size (lv k' f') (gL ((cks.getD k' []).getD f' 0) (x k' f'))
set_option maxHeartbeats 1600000 in
theorem take_each (own:Nat → Nat) (base tb s:Nat) (cks:List (List Nat)) (ents:List (Int × Int)) (xs:Nat → Nat → List Value) (base2 tb2 s2:Nat) (ents2:List (Int × Int)) (xs2:Nat → Nat → List Value) (p lf:Int) (x:Nat → Nat → FV) (v:Nat → Nat → Value) (w V:World) (fb bx hb:Nat)
 (hT:TabC w own base tb s cks ents xs) (hF:TabC w own base2 tb2 s2 cks ents2 xs2) (hout:∀ j,w.heap.size ≤ j → own j = 0) (hb1:1 ≤ base) (hap:base + 32 ≤ base2 ∨ base2 + 32 ≤ base) (hkl:∀ k,(cks.getD k []).length ≤ 4) (hkk:∀ k,∀ y ∈ cks.getD k [],1 ≤ y ∧ y ≤ 5)
 (hl:ents.length ≤ 99) (hsort:ents.Pairwise fun a b => a.1 < b.1) (hin:ahead ents p < ents.length) (hl2:ents2.length ≤ 99) (hsort2:ents2.Pairwise fun a b => a.1 < b.1) (hin2:ahead ents2 p < ents2.length)
 (hrow:∀ k f,f < (cks.getD k []).length → ∀ o,o < kSz ((cks.getD k []).getD f 0) → (xs2 k f)[ahead ents2 p * kSz ((cks.getD k []).getD f 0) + o]? = (fvCells ((cks.getD k []).getD f 0) (x k f) (v k f))[o]?)
 (hv:∀ k f W,Turns V W (fun b => ∃ k f,k < 6 ∧ f < 4 ∧ own b = base + lCol k f) → IntsAt W (v k f) (x k f).ls) (hx:∀ k f,(x k f).ls.length ≤ 100 ∧ (x k f).s.length ≤ 1000)
 (hB:Below w.heap.size w V) (hfb:w.heap.size ≤ fb ∧ fb < V.heap.size) (hbx:w.heap.size ≤ bx ∧ bx < V.heap.size) (hhb:w.heap.size ≤ hb ∧ hb < V.heap.size)
 (b0:V.cell? ⟨fb,0,none⟩ = some (.pointer (some ⟨tb2,0,none⟩))) (b1:V.cell? ⟨bx,0,none⟩ = some (.pointer (some ⟨tb,0,none⟩))) (b2:V.cell? ⟨hb,0,none⟩ = some (.int .i64 p)) (b3:V.cell? ⟨hb,1,none⟩ = some (.int .i64 lf)) :
 Calls Tryz.prog 124 #[.pointer (some ⟨tb,0,none⟩),.func (.func 196) #[] #[.pointer (some ⟨fb,0,none⟩),.pointer (some ⟨bx,0,none⟩),.pointer (some ⟨hb,0,none⟩)]] V fun e w' => e = .returned (.tuple #[]) ∧ TakeInv w V own base tb s s2 cks ents (ahead ents p) xs x 6 0 w':=by
 have hTV:TabC V own base tb s cks ents xs:=hT.turn hkl fun j hj _ _ => ⟨hB.block j hj,rfl⟩
 have hFV:TabC V own base2 tb2 s2 cks ents2 xs2:=hF.turn hkl fun j hj _ _ => ⟨hB.block j hj,rfl⟩
 have hTV0:=hTV
 obtain ⟨hme,ev,slc,hb0,hown,hevb,hcols⟩:=hTV
 obtain ⟨cbs,hM⟩:=mix_of hcols
 have hlt:tb < V.heap.size:=(Array.getElem?_eq_some_iff.1 hb0).1
 have hlen:∀ k,k < 6 → hasC s cks k = true → (colList s cks cbs k).length = (cks.getD k []).length:=fun k hk hq => by
  have h0:=hM k hk
  unfold colList
  rw [if_pos hq] at h0
  rw [if_pos hq,List.length_zipWith,h0.len];simp
 have hno:∀ j,own j < base + 8 → ¬ ∃ k f,k < 6 ∧ f < 4 ∧ own j = base + lCol k f:=fun j hj ⟨k,f,_,_,e⟩ => by unfold lCol at e;omega
 have hcellT:∀ W,Turns V W (fun b => ∃ k f,k < 6 ∧ f < 4 ∧ own b = base + lCol k f) → W.heap[tb]? = V.heap[tb]?:=fun W hW => hW.block tb hlt (hno tb (by omega))
 have hcell:∀ k,k < 6 → hasC s cks k = true → ∀ f (hf:f < (colList s cks cbs k).length) W,Turns V W (fun b => ∃ k f,k < 6 ∧ f < 4 ∧ own b = base + lCol k f) → ∃ g c,slc k = .slice (some ⟨g,0,none⟩) (colList s cks cbs k).length c ∧ (colList s cks cbs k).length ≤ c ∧ W.cell? ⟨g,f,none⟩ = some (colList s cks cbs k)[f]:=fun k hk hq f hf W hW => by
  have h0:=hM k hk
  have hl0:=hlen k hk hq
  rw [if_pos hq] at h0
  have hrw:=h0.row
  rcases h0.row.2 with ⟨h1,h2⟩ | ⟨g,cap,cur,h1,_,h3,h4',_⟩
  · omega
  · refine ⟨g,cap,by rw [hl0];exact h1,by omega,?_⟩
    have hgl:g < V.heap.size:=(Array.getElem?_eq_some_iff.1 h3).1
    have hgo:own g = base + lCols k:=h0.rowB g (by rw [h1];rfl)
    rw [h1] at hrw
    rw [World.cell?_of_block (a:=⟨g,f,none⟩) (hW.block g hgl (hno g (by rw [hgo];unfold lCols;omega))),hrw.cellAt f (by omega)]
    unfold colList
    simp only [if_pos hq]
    rw [List.getElem?_eq_getElem]
 have E:=each_any 196 #[.pointer (some ⟨fb,0,none⟩),.pointer (some ⟨bx,0,none⟩),.pointer (some ⟨hb,0,none⟩)] tb slc (colList s cks cbs) (TakeInv w V own base tb s s2 cks ents (ahead ents p) xs x) V runs196
  (fun k hk => by
   rw [cell_row hb0]
   have:k = 0 ∨ k = 1 ∨ k = 2 ∨ k = 3 ∨ k = 4 ∨ k = 5:=by omega
   rcases this with rfl | rfl | rfl | rfl | rfl | rfl <;> rfl) ?_ ?_ ?_ ?_
 · exact E
 · intro k hk
   have h0:=hM k hk
   by_cases hq:hasC s cks k = true
   · have hl0:=hlen k hk hq
     rw [if_pos hq] at h0
     have h4:=hkl k
     by_cases hz:(colList s cks cbs k).length = 0
     · rcases h0.row.2 with ⟨h1,_⟩ | ⟨g,cap,cur,h1,_,h3,h4',_⟩
       · exact Or.inl ⟨h1,List.length_eq_zero_iff.1 hz⟩
       · exact Or.inr ⟨g,cap,by rw [hl0];exact h1,by omega,by omega,fun f W _ j hj => by omega⟩
     · obtain ⟨g,c,e1,e2,_⟩:=hcell k hk hq 0 (by omega) V ⟨rfl,rfl,rfl,Nat.le_refl _,fun _ _ _ => rfl⟩
       refine Or.inr ⟨g,c,e1,e2,by omega,?_⟩
       rintro f W ⟨hW,_⟩ j hj
       obtain ⟨g',c',e3,_,e4⟩:=hcell k hk hq j hj W hW
       rw [e1] at e3
       cases e3
       exact e4
   · rw [if_neg hq] at h0
     exact Or.inl ⟨h0,by unfold colList;rw [if_neg hq]⟩
 · refine ⟨⟨rfl,rfl,rfl,Nat.le_refl _,fun _ _ _ => rfl⟩,fun _ _ => .slice none 0 0,?_,fun k' f' _ _ h _ => by omega⟩
   rw [mixed2_zero]
   exact hTV0
 · rintro k W hk ⟨hW,lv,h1,h2⟩
   have hq4:=hkl k
   have hlk:hasC s cks k = true → (colList s cks cbs k).length = (cks.getD k []).length:=hlen k hk
   refine ⟨hW,lv,h1.eqv fun k' f' _ hq hf => ?_,fun k' f' hq2 hf hlt hq => h2 k' f' hq2 hf ?_ hq⟩
   · unfold mixed2
     by_cases e:k' = k
     · subst e
       rw [if_pos (by omega),if_pos (by right;exact ⟨rfl,by rw [hlk hq];exact hf⟩)]
     · by_cases e2:k' < k
       · rw [if_pos (by omega),if_pos (by omega)]
       · rw [if_neg (by omega),if_neg (by omega)]
   · by_cases e:k' = k
     · subst e
       right;exact ⟨rfl,by rw [hlk hq];exact hf⟩
     · omega
 · rintro k f hk hf W ⟨hW,lv,h1,h2⟩
   have hq:hasC s cks k = true:=by
    by_cases hq:hasC s cks k = true
    · exact hq
    · unfold colList at hf;rw [if_neg hq] at hf;simp at hf
   have hfl:f < (cks.getD k []).length:=by rw [← hlen k hk hq];exact hf
   have hkd:=hkk k _ (List.getElem_mem hfl)
   obtain ⟨kd,hkde⟩:∃ kd,kd = (cks.getD k [])[f]:=⟨_,rfl⟩
   have hgd:(cks.getD k []).getD f 0 = kd:=by rw [hkde];simp only [List.getD] at hfl ⊢;rw [List.getElem?_eq_getElem hfl];rfl
   have hge:(cks.getD k [])[f]? = some kd:=by rw [hkde];exact List.getElem?_eq_getElem hfl
   rw [← hkde] at hkd
   have hsz:=hW.size
   have hbz:=hB.size
   have hob:∀ j,w.heap.size ≤ j → own j < base + 8:=fun j hj => by rw [hout j hj];omega
   have hcb:∀ j o,j < V.heap.size → own j < base + 8 → W.cell? ⟨j,o,none⟩ = V.cell? ⟨j,o,none⟩:=fun j o hj ho => World.cell?_of_block (a:=⟨j,o,none⟩) (hW.block j hj (hno j ho))
   have hFW:TabC W own base2 tb2 s2 cks ents2 xs2:=hFV.turn hkl fun j hj h3 h4 => ⟨hW.block j hj fun ⟨k',f',q1,q2,q3⟩ => by unfold lCol at q3;omega,rfl⟩
   by_cases hq2:hasC s2 cks k = true
   · obtain ⟨ev',sl',g',c',cb,q1,q2,q3,q4,q5,q6,q7,q8,q9,q10⟩:=h1.col hkl k f kd hk hq hge
     rw [mixed2_at] at q9
     obtain ⟨g,c,e1,_,e3⟩:=hcell k hk hq f hf W hW
     have e5:slc k = sl' k:=by
      have z1:=q3 k hk
      rw [cell_row ((hcellT W hW).trans hb0)] at z1
      have:k = 0 ∨ k = 1 ∨ k = 2 ∨ k = 3 ∨ k = 4 ∨ k = 5:=by omega
      rcases this with rfl | rfl | rfl | rfl | rfl | rfl <;> exact Option.some.inj z1
     rw [e1,q4] at e5
     have e6:g = g':=by injection e5 with e5 _ _;injection e5 with e5;injection e5
     subst e6
     have e7:(colList s cks cbs k)[f] = colVal kd cb:=Option.some.inj (e3.symm.trans q6)
     rw [e7]
     have hr:=hrow k f hfl
     rw [hgd] at hr
     refine (take1_yes (F:=fun b => own b = base + lCol k f) own tb ev' ents base2 tb2 s2 cks ents2 xs2 p lf k f kd cb fb bx hb (xs k f) (x k f) (v k f) W hFW hkl hk hq2 hge hkd hl2 hsort2 hin2 hr (hv k f W hW) (hx k f).1 (hx k f).2 q1 q2 hl hsort hin q9 ((hcb _ _ hfb.2 (hob _ hfb.1)).trans b0) ((hcb _ _ hbx.2 (hob _ hbx.1)).trans b1) ((hcb _ _ hhb.2 (hob _ hhb.1)).trans b2) ((hcb _ _ hhb.2 (hob _ hhb.1)).trans b3) (by rw [hout _ hfb.1];unfold lCol;omega) (by rw [hout _ hbx.1];unfold lCol;omega) (by rw [hout _ hhb.1];unfold lCol;omega)).mono ?_
     rintro e w' ⟨rfl,t1,v',t2,t3⟩
     have hk4:=hkl k
     refine ⟨rfl,hW.trans' ⟨t1.os,t1.tape,t1.output,t1.size,fun j hj hn => t1.block j hj fun q => hn ⟨k,f,hk,by omega,q⟩⟩,upd2 lv k f v',?_,fun k' f' hq2' hf' hlt hq' => ?_⟩
     · have h9:=q10 w' _ t1 t3
       rw [← mixed2_lv s2 cks _ xs x lv k f v'] at h9
       have e8:putAt (xs k f) (ahead ents p * kSz kd) (fvCells kd (x k f) v') = takenX s2 cks (ahead ents p) xs x (upd2 lv k f v') k f:=by
        unfold takenX
        rw [if_pos hq2,hgd]
        simp [upd2]
       rw [e8,mixed2_next] at h9
       exact h9
     · by_cases e:k' = k ∧ f' = f
       · obtain ⟨rfl,rfl⟩:=e
         have e9:upd2 lv k' f' v' k' f' = v':=by simp [upd2]
         rw [e9,hgd]
         exact own_base t2 (by omega)
       · have e9:upd2 lv k f v' k' f' = lv k' f':=by unfold upd2;rw [if_neg e]
         rw [e9]
         have ho:=h2 k' f' hq2' hf' (by omega) hq'
         exact own_turn ho fun j hj hjl => t1.block j hjl (by rw [hout j (ho.lt j hj).1];unfold lCol;omega)
   · have hc0:W.cell? ⟨tb2,1 + k,none⟩ = some (.slice none 0 0):=by
      obtain ⟨_,ev2,sl2,r1,_,_,r4⟩:=hFW
      have:=r4 k hk
      rw [if_neg hq2] at this
      rw [cell_row r1]
      have hkk6:k = 0 ∨ k = 1 ∨ k = 2 ∨ k = 3 ∨ k = 4 ∨ k = 5:=by omega
      rcases hkk6 with rfl | rfl | rfl | rfl | rfl | rfl <;> exact congrArg some this
     refine (take1_no tb2 k f fb bx hb (colList s cks cbs k)[f] W hk ((hcb _ _ hfb.2 (hob _ hfb.1)).trans b0) hc0).mono ?_
     rintro e w' ⟨rfl,rfl⟩
     refine ⟨rfl,hW,lv,?_,fun k' f' hq2' hf' hlt hq' => h2 k' f' hq2' hf' ?_ hq'⟩
     · have e8:mixed2 xs (takenX s2 cks (ahead ents p) xs x lv) k (f + 1) = mixed2 xs (takenX s2 cks (ahead ents p) xs x lv) k f:=by
        rw [← mixed2_next]
        funext a c
        unfold upd2
        split
        · rename_i h
          obtain ⟨rfl,rfl⟩:=h
          rw [mixed2_at]
          unfold takenX
          rw [if_neg hq2]
        · rfl
       rw [e8]
       exact h1
     · by_cases e:k' = k
       · subst e
         exact absurd hq2' hq2
       · omega
def TakeEnds (w:World) (own:Nat → Nat) (base tb s s2:Nat) (cks:List (List Nat)) (ents:List (Int × Int)) (r:Nat) (xs:Nat → Nat → List Value) (x:Nat → Nat → FV) (w':World):Prop :=
 Turns w w' (fun b => ∃ k f,k < 6 ∧ f < 4 ∧ own b = base + lCol k f) ∧ ∃ lv,TabC w' own base tb s cks ents (takenX s2 cks r xs x lv) ∧
  ∀ k f,hasC s2 cks k = true → f < (cks.getD k []).length → k < 6 → hasC s cks k = true → ListNew w' w.heap.size (lv k f) (gL ((cks.getD k []).getD f 0) (x k f))
set_option maxHeartbeats 800000 in
set_option maxRecDepth 100000 in
theorem take_tab (own:Nat → Nat) (base tb s:Nat) (cks:List (List Nat)) (ents:List (Int × Int)) (xs:Nat → Nat → List Value) (base2 tb2 s2:Nat) (ents2:List (Int × Int)) (xs2:Nat → Nat → List Value) (p lf:Int) (x:Nat → Nat → FV) (v:Nat → Nat → Value) (w:World)
 (hT:TabC w own base tb s cks ents xs) (hF:TabC w own base2 tb2 s2 cks ents2 xs2) (hout:∀ j,w.heap.size ≤ j → own j = 0) (hb1:1 ≤ base) (hap:base + 32 ≤ base2 ∨ base2 + 32 ≤ base) (hkl:∀ k,(cks.getD k []).length ≤ 4) (hkk:∀ k,∀ y ∈ cks.getD k [],1 ≤ y ∧ y ≤ 5)
 (hl:ents.length ≤ 99) (hsort:ents.Pairwise fun a b => a.1 < b.1) (hin:ahead ents p < ents.length) (hl2:ents2.length ≤ 99) (hsort2:ents2.Pairwise fun a b => a.1 < b.1) (hin2:ahead ents2 p < ents2.length)
 (hrow:∀ k f,f < (cks.getD k []).length → ∀ o,o < kSz ((cks.getD k []).getD f 0) → (xs2 k f)[ahead ents2 p * kSz ((cks.getD k []).getD f 0) + o]? = (fvCells ((cks.getD k []).getD f 0) (x k f) (v k f))[o]?)
 (hv:∀ k f W,Turns w W (fun b => ∃ k f,k < 6 ∧ f < 4 ∧ own b = base + lCol k f) → IntsAt W (v k f) (x k f).ls) (hx:∀ k f,(x k f).ls.length ≤ 100 ∧ (x k f).s.length ≤ 1000) :
 Calls Tryz.prog 128 #[.pointer (some ⟨tb,0,none⟩),.agg #[.int .i64 p,.int .i64 lf],.pointer (some ⟨tb2,0,none⟩)] w fun e w' => e = .returned (.tuple #[]) ∧ TakeEnds w own base tb s s2 cks ents (ahead ents p) xs x w':=by
 obtain ⟨V,hV⟩:∃ V,V = ((w.alloc (.cells #[.pointer (some ⟨tb,0,none⟩)] 125)).alloc (.cells #[.int .i64 p,.int .i64 lf] 46)).alloc (.cells #[.pointer (some ⟨tb2,0,none⟩)] 125):=⟨_,rfl⟩
 have hB:Below w.heap.size w V:=by rw [hV];exact (((Below.refl _ _).alloc (Nat.le_refl _) _).alloc (by simp) _).alloc (by simp;omega) _
 have hs:V.heap.size = w.heap.size + 3:=by rw [hV];simp
 have k2:V.heap[w.heap.size + 2]? = some (.cells #[.pointer (some ⟨tb2,0,none⟩)] 125 (0,0)):=by rw [hV];exact heap_alloc_at (by simp) _
 have k1:V.heap[w.heap.size + 1]? = some (.cells #[.int .i64 p,.int .i64 lf] 46 (0,0)):=by rw [hV,Below.heap_alloc _ _ _ (by simp)];exact heap_alloc_at (by simp) _
 have k0:V.heap[w.heap.size]? = some (.cells #[.pointer (some ⟨tb,0,none⟩)] 125 (0,0)):=by rw [hV,Below.heap_alloc _ _ _ (by simp;omega),Below.heap_alloc _ _ _ (by simp)];exact heap_alloc_at rfl _
 have c0:V.cell? ⟨w.heap.size,0,none⟩ = some (.pointer (some ⟨tb,0,none⟩)):=by rw [cell_row k0];rfl
 have c1:V.cell? ⟨w.heap.size + 1,0,none⟩ = some (.int .i64 p):=by rw [cell_row k1];rfl
 have c2:V.cell? ⟨w.heap.size + 1,1,none⟩ = some (.int .i64 lf):=by rw [cell_row k1];rfl
 have c3:V.cell? ⟨w.heap.size + 2,0,none⟩ = some (.pointer (some ⟨tb2,0,none⟩)):=by rw [cell_row k2];rfl
 have HE:Hid (∀ W,W = V → Calls Tryz.prog 124 #[.pointer (some ⟨tb,0,none⟩),.func (.func 196) #[] #[.pointer (some ⟨w.heap.size + 2,0,none⟩),.pointer (some ⟨w.heap.size,0,none⟩),.pointer (some ⟨w.heap.size + 1,0,none⟩)]] W fun e w' => e = .returned (.tuple #[]) ∧ Hid (TakeEnds w own base tb s s2 cks ents (ahead ents p) xs x w')):=by
  rintro W rfl
  refine (take_each own base tb s cks ents xs base2 tb2 s2 ents2 xs2 p lf x v w W (w.heap.size + 2) w.heap.size (w.heap.size + 1) hT hF hout hb1 hap hkl hkk hl hsort hin hl2 hsort2 hin2 hrow (fun k f W' hW' => hv k f W' ((Turns.ofBelow _ hB).trans' hW')) hx hB (by omega) (by omega) (by omega) c3 c0 c1 c2).mono ?_
  rintro e w' ⟨rfl,h1,lv,h2,h3⟩
  refine ⟨rfl,(Turns.ofBelow _ hB).trans' h1,lv,h2.eqv fun k f hk hq hf => ?_,fun k f q1 q2 q3 q4 => h3 k f q1 q2 (by omega) q4⟩
  unfold mixed2
  rw [if_pos (by omega)]
 have HVe:Hid (_ = V):=hV.symm
 clear hT hF hV hB hrow hv c0 c1 c2 c3 k0 k1 k2 hsort hsort2 hin hin2 hs
 have hmf:∀ (fn:Fn) (first cap:Array Value) (w:World),(Instr.makeFunc fn first cap).run Tryz.prog w = .ok (.func fn first cap) w:=fun _ _ _ _ => rfl
 go_enter Tryz.func128,Tryz.ntmps128
 go_wp2_with (go_at_call 124;refine (HE.out _ HVe.out).mono ?_;rintro e w3 ⟨rfl,hP⟩)
 go_end0
 exact ⟨rfl,hP.out⟩
end Go.Proofs.YthkbeaffkcfgiabGreatDoor
namespace Go.Proofs.YthkbeaffkcfgiabGreatDoor
open Go.RowKit Go.Maps
theorem MapM.drop {W:World} {bm n:Nat} {m:Nat → Option Nat} (h:MapM W bm n m) (s:Nat) (hs:s < 64) (ty:TypeId):∃ W' n',(Builtin.delete_ #[109,105] ty #[.map (some bm),.int .u64 (s:Int)]).run Tryz.prog W = .ok (.tuple #[]) W' ∧ MapM W' bm n' (fun x => if x = s then none else m x) ∧ n' ≤ n ∧ W.mapTurned W' bm:=by
 obtain ⟨D,h0,h1,h2,h3⟩:=h
 obtain ⟨W',e1,e2,e3⟩:=World.ownsMap.drop h0 key79 Tryz.underlying109 (keyS s hs) ty
 refine ⟨W',n,e1,⟨_,e2,h1.del _,fun x hx => ?_,fun kl y hy => ?_⟩,Nat.le_refl _,e3⟩
 · by_cases e:x = s
   · subst e
     rw [atKey_del_same]
     simp [elemD]
   · rw [atKey_del_other (by intro h;simp at h;omega),h2 x hx]
     simp [e]
 · by_cases e:kl = .int .u64 (s:Int)
   · have h1:=hy .nil
     have h2:=hy (.agg [])
     rw [e,atKey_del_same] at h1 h2
     rw [← h1] at h2;cases h2
   · obtain ⟨s1,tb1,q1,q2,q3,q4⟩:=h3 kl y fun zd => by rw [← hy zd,atKey_del_other e]
     exact ⟨s1,tb1,q1,q2,(if_neg (by rintro rfl;exact e q2)).trans q3,q4⟩
def LeaveT (w:World) (own:Nat → Nat) (b N:Nat) (L:List CompS) (ents:Nat → List (Int × Int)) (xs:Nat → Nat → Nat → List Value) (s:Nat) (p:Int) (e:Ending) (w':World):Prop :=
 e = .returned (.tuple #[]) ∧ Turns w w' (fun k => own k = 2 ∨ 32 ≤ own k) ∧ ∃ own',(∀ k,k < w.heap.size → own' k = own k) ∧ (∀ k,w'.heap.size ≤ k → own' k = 0) ∧
   TabsW w' own' b N L (upd ents s (cutOut (ents s) (ahead (ents s) p) 1)) (upd xs s fun k f => cutOut (xs s k f) (ahead (ents s) p * kSz (kindAt L k f)) (kSz (kindAt L k f)))
set_option maxHeartbeats 1600000 in
set_option maxRecDepth 100000 in
theorem leave_wt (own:Nat → Nat) (b bm n N s tb:Nat) (m:Nat → Option Nat) (L:List CompS) (ents:Nat → List (Int × Int)) (xs:Nat → Nat → Nat → List Value) (p l:Int) (w:World) (hme:own b = 1) (hblk:∃ arr,w.heap[b]? = some (.cells arr 111 (0,0)) ∧ arr.size = 62) (hkl:∀ k,((kinds L).getD k []).length ≤ 4) (hkk:∀ k,∀ x ∈ (kinds L).getD k [],1 ≤ x ∧ x ≤ 5) (hT:TabsIn w own b bm n m L ents xs) (hn:n ≤ N) (hs:s < 64) (hms:m s = some tb)
 (hl:(ents s).length ≤ 99) (hsort:(ents s).Pairwise fun a b => a.1 < b.1) (hx1:∀ k f,∀ u ∈ xs s k f,u.oneCell' = true) (hin:ahead (ents s) p < (ents s).length)
 (hemp:cutOut (ents s) (ahead (ents s) p) 1 = [] → (fun k f => cutOut (xs s k f) (ahead (ents s) p * kSz (kindAt L k f)) (kSz (kindAt L k f))) = fun _ _ => []) :
 Calls Tryz.prog 60 #[.pointer (some ⟨b,0,none⟩),.agg #[.int .i64 p,.int .i64 l],.int .u64 (s:Int)] w (LeaveT w own b N L ents xs s p):=by
 obtain ⟨arr,hb0,hbs⟩:=hblk
 have hlt:b < w.heap.size:=(Array.getElem?_eq_some_iff.1 hb0).1
 obtain ⟨V,hV⟩:∃ V,V = w.alloc (.cells #[.int .i64 p,.int .i64 l] 46):=⟨_,rfl⟩
 have hA:Below w.heap.size w V:=by rw [hV];exact (Below.refl _ _).alloc (Nat.le_refl _) _
 have hT1:TabsIn V own b bm n m L ents xs:=hT.turn hkl (hA.cell (p:=⟨b,61,none⟩) hlt) (fun k hk _ => ⟨hA.block k hk,rfl⟩)
 have hlook:=hT1.map.look s hs
 rw [hms] at hlook
 simp only [Option.map_some] at hlook
 have h61:V.cell? ⟨b,61,none⟩ = some (.map (some bm)):=hT1.c61
 obtain ⟨q2⟩:Nonempty (TabC V own (32 * (1 + s)) tb s (kinds L) (ents s) (xs s)):=by
  rcases hT1.tab s hs with ⟨q,_⟩ | ⟨tb',q1,q2⟩
  · rw [hms] at q;cases q
  · rw [hms] at q1;cases q1;exact ⟨q2⟩
 have HC:Hid (∀ W,W = V → Calls Tryz.prog 122 #[.pointer (some ⟨tb,0,none⟩),.agg #[.int .i64 p,.int .i64 l]] W fun e w' => e = .returned (.tuple #[]) ∧ ∃ a n c,w'.cell? ⟨tb,0,none⟩ = some (.slice a n c) ∧ w'.cell? ⟨b,61,none⟩ = some (.map (some bm)) ∧
  Hid (((n:Int) == 0) = false → LeaveT w own b N L ents xs s p (.returned (.tuple #[])) w') ∧ Hid (((n:Int) == 0) = true → ∀ ty,∃ w2,(Builtin.delete_ #[109,105] ty #[.map (some bm),.int .u64 (s:Int)]).run Tryz.prog w' = .ok (.tuple #[]) w2 ∧ LeaveT w own b N L ents xs s p (.returned (.tuple #[])) w2)):=by
  rintro W rfl
  refine (leave_tabC own (32 * (1 + s)) tb s (kinds L) (ents s) (xs s) p l W q2 (by omega) hkl hkk hl hsort hx1 hin).mono ?_
  rintro e w' ⟨rfl,t1,own2,t2,t3⟩
  have hsz:=t1.size
  have hsV:=hA.size
  have hml:=hT1.map.lt
  have hlab:=hT1.lab
  have eb:w'.heap[b]? = W.heap[b]?:=t1.block b (by omega) (by omega)
  have em:w'.heap[bm]? = W.heap[bm]?:=t1.block bm hml (by omega)
  have t3':=t3
  obtain ⟨_,ev,sl,r1,r2,_,_⟩:=t3'
  obtain ⟨ra,rc,rfl⟩:=own_form r2
  have hTw:Turns w w' (fun k => own k = 2 ∨ 32 ≤ own k):=(Turns.ofBelow _ hA).trans' ⟨t1.os,t1.tape,t1.output,t1.size,fun k hk hn => t1.block k hk fun h => hn (Or.inr (by omega))⟩
  have c61:w'.cell? ⟨b,61,none⟩ = some (.map (some bm)):=(World.cell?_of_block (a:=⟨b,61,none⟩) eb).trans h61
  have hMw:MapM w' bm n m:=hT1.map.turn em
  refine ⟨rfl,ra,_,rc,by rw [cell_row r1];rfl,c61,fun h0 => ?_,fun h0 ty => ?_⟩
  · have ho3:∀ k,k < w'.heap.size → (fun k => if k < w'.heap.size then own2 k else 0) k = own2 k:=fun k hk => if_pos hk
    refine ⟨rfl,hTw,fun k => if k < w'.heap.size then own2 k else 0,fun k hk => (ho3 k (by omega)).trans (t2 k (by omega)),fun k hk => if_neg (by omega),Or.inr ⟨bm,n,m,⟨c61,(ho3 bm (by omega)).trans ((t2 bm hml).trans hlab),hMw,fun s' hs' => ?_⟩,hn⟩⟩
    by_cases e:s' = s
    · subst e
      rw [upd_same,upd_same]
      exact Or.inr ⟨tb,hms,t3.turn hkl fun k hk _ _ => ⟨rfl,ho3 k hk⟩⟩
    · rw [upd_ne _ _ _ e,upd_ne _ _ _ e]
      rcases hT1.tab s' hs' with h | ⟨tb',h1,h2⟩
      · exact Or.inl h
      · exact Or.inr ⟨tb',h1,h2.turn hkl fun k hk h3 h4 => ⟨t1.block k hk (by omega),(ho3 k (by omega)).trans (t2 k hk)⟩⟩
  · obtain ⟨w2,n',d1,d2,d3,d4⟩:=hMw.drop s hs ty
    have hgr:=d4.grown
    have hz2:=hgr.size
    have hbl:∀ k,k < w'.heap.size → k ≠ bm → w2.heap[k]? = w'.heap[k]?:=fun k hk hne => hgr.block k hk (fun e => hne (by simpa using e))
    have hbb:bm ≠ b:=fun e => by rw [e] at hlab;omega
    have hnil:cutOut (ents s) (ahead (ents s) p) 1 = []:=by
     have:((cutOut (ents s) (ahead (ents s) p) 1).length:Int) = 0:=by simpa using h0
     exact List.length_eq_zero_iff.1 (by omega)
    have ho3:∀ k,k < w2.heap.size → (fun k => if k < w'.heap.size then own2 k else 0) k = if k < w'.heap.size then own2 k else 0:=fun k hk => rfl
    have ho4:∀ k,k < w'.heap.size → (fun k => if k < w'.heap.size then own2 k else 0) k = own2 k:=fun k hk => if_pos hk
    refine ⟨w2,d1,rfl,hTw.trans' (Turns.ofGrown hgr fun k hk hkl => by simp at hk;rw [← hk];left;exact hlab),fun k => if k < w'.heap.size then own2 k else 0,fun k hk => (ho4 k (by omega)).trans (t2 k (by omega)),fun k hk => if_neg (by omega),Or.inr ⟨bm,n',fun x => if x = s then none else m x,⟨(World.cell?_of_block (a:=⟨b,61,none⟩) (hbl b (by omega) hbb.symm)).trans c61,(ho4 bm (by omega)).trans ((t2 bm hml).trans hlab),d2,fun s' hs' => ?_⟩,by omega⟩⟩
    by_cases e:s' = s
    · subst e
      rw [upd_same,upd_same,hnil]
      exact Or.inl ⟨if_pos rfl,rfl,hemp hnil⟩
    · rw [upd_ne _ _ _ e,upd_ne _ _ _ e]
      rcases hT1.tab s' hs' with ⟨h1,h2⟩ | ⟨tb',h1,h2⟩
      · exact Or.inl ⟨by simp only [if_neg e];exact h1,h2⟩
      · refine Or.inr ⟨tb',by simp only [if_neg e];exact h1,h2.turn hkl fun k hk h3 h4 => ⟨(hbl k (by omega) (fun e' => by rw [e',hlab] at h3;omega)).trans (t1.block k hk (by omega)),(ho4 k (by omega)).trans (t2 k hk)⟩⟩
 have HVe:Hid (_ = V):=hV.symm
 rw [hV] at hlook h61
 clear hT hT1 hsort hA hb0 hV hms hx1 hkl hkk q2 hin hemp
 go_enter Tryz.func60,Tryz.ntmps60
 go_wp2_with fail
 refine (HC.out _ HVe.out).mono ?_
 rintro e w1 ⟨rfl,a,nn,c,ct,cb,HNo,HYes⟩
 by_cases h0:((nn:Int) == 0) = true
 · obtain ⟨w3,hdel,hE⟩:=HYes.out h0 0
   have HE:Hid (LeaveT w own b N L ents xs s p (.returned (.tuple #[])) w3):=hE
   clear hE
   go_wp2_with (go_at_call 123;refine (empty_tab tb a nn c _ ct).mono ?_;rw [h0];rintro e w2 ⟨rfl,rfl⟩)
   go_end0
   exact HE.out
 · have h0':((nn:Int) == 0) = false:=by simpa using h0
   have HE:Hid (LeaveT w own b N L ents xs s p (.returned (.tuple #[])) w1):=HNo.out h0'
   go_wp2_with (go_at_call 123;refine (empty_tab tb a nn c _ ct).mono ?_;rw [h0'];rintro e w2 ⟨rfl,rfl⟩)
   go_end0
   exact HE.out
end Go.Proofs.YthkbeaffkcfgiabGreatDoor
namespace Go.Proofs.YthkbeaffkcfgiabGreatDoor
open Go.RowKit
def keepsB (L:List CompS) (s s' k f:Nat):Bool:=hasC s (kinds L) k && (hasC s' (kinds L) k && decide (f < ((kinds L).getD k []).length))
def St.move (S:St) (L:List CompS) (i s':Nat) (lv':Nat → Nat → Value):St :=
 { S with cp:=upd S.cp i s',vals:=upd S.vals i (fun k f => if keepsB L (S.cp i) s' k f then FV.norm (kindAt L k f) (S.vals i k f) else .zero),lv:=upd S.lv i (fun k f => if keepsB L (S.cp i) s' k f then lv' k f else .slice none 0 0) }
theorem sel_move (S:St) (L:List CompS) (i s':Nat) (lv':Nat → Nat → Value) (ht:S.tk i = true) (hne:s' ≠ S.cp i) (t:Nat):(S.move L i s' lv').sel t = if t = s' then upd (S.sel s') i true else if t = S.cp i then upd (S.sel (S.cp i)) i false else S.sel t:=by
 funext j
 by_cases e:j = i
 · subst e
   by_cases e1:t = s'
   · subst e1;simp [St.sel,St.move,upd,ht]
   · by_cases e2:t = S.cp j
     · subst e2;simp [St.sel,St.move,upd,e1];intro _ h;exact hne h
     · have a1:¬ s' = t:=fun h => e1 h.symm
       have a2:¬ S.cp j = t:=fun h => e2 h.symm
       simp [St.sel,St.move,upd,e1,e2,a1,a2]
 · by_cases e1:t = s'
   · subst e1;simp [St.sel,St.move,upd,e]
   · by_cases e2:t = S.cp i
     · subst e2;simp [St.sel,St.move,upd,e,e1]
     · simp [St.sel,St.move,upd,e,e1,e2]
theorem ents_enter (bg:Nat → Nat) (q:Nat → Bool) (i:Nat) (hi:i < 20) (ht:q i = false):entsOf bg (upd q i true) = setIn (entsOf bg q) (ahead (entsOf bg q) ((i:Int) + 1)) [((i:Int) + 1,(bg i:Int))]:=by
 rw [ahead_ents bg q i hi,ents_split bg (upd q i true) i hi,ents_split bg q i hi,entsA_upd bg bg q _ i (fun _ _ => rfl) (fun j h => upd_ne _ _ _ h),entsB_upd bg bg q _ i (fun _ _ => rfl) (fun j h => upd_ne _ _ _ h),upd_same,ht]
 simp [setIn]
theorem cells_cut (bg:Nat → Nat) (q:Nat → Bool) (g g':Nat → List Value) (sz i:Nat) (hi:i < 20) (hq:q i = true) (hg:∀ j,j ≠ i → g' j = g j) (hl:∀ j,(g j).length = sz) :
 cellsOf (upd q i false) g' = cutOut (cellsOf q g) (ahead (entsOf bg q) ((i:Int) + 1) * sz) sz:=by
 rw [aheadS bg q i hi,cells_split (upd q i false) g' i hi,cells_split q g i hi,upd_same,hq]
 have e1:(List.range i).filter (upd q i false) = (List.range i).filter q:=List.filter_congr fun x hx => upd_ne _ _ _ (by have:=List.mem_range.1 hx;omega)
 have e2:(List.range' (i + 1) (19 - i)).filter (upd q i false) = (List.range' (i + 1) (19 - i)).filter q:=List.filter_congr fun x hx => upd_ne _ _ _ (by have:=List.mem_range'_1.1 hx;omega)
 have e3:((List.range i).filter q).flatMap g' = ((List.range i).filter q).flatMap g:=flatV_congr _ fun j hj => hg j (by have:=List.mem_range.1 (List.mem_filter.1 hj).1;omega)
 have e4:((List.range' (i + 1) (19 - i)).filter q).flatMap g' = ((List.range' (i + 1) (19 - i)).filter q).flatMap g:=flatV_congr _ fun j hj => hg j (by have:=List.mem_range'_1.1 (List.mem_filter.1 hj).1;omega)
 rw [e1,e2,e3,e4]
 have hlen:((List.range i).filter q).length * sz = (((List.range i).filter q).flatMap g).length:=(flatV_len g sz _ fun j _ => hl j).symm
 have hli:=hl i
 rw [hlen]
 generalize ((List.range i).filter q).flatMap g = A at *
 generalize ((List.range' (i + 1) (19 - i)).filter q).flatMap g = B at *
 generalize g i = C at *
 subst hli
 simp [cutOut]
theorem ents_move (S:St) (L:List CompS) (i s':Nat) (lv':Nat → Nat → Value) (hi:i < 20) (ht:S.tk i = true) (hne:s' ≠ S.cp i) :
 (S.move L i s' lv').ents = upd (upd S.ents s' (setIn (S.ents s') (ahead (S.ents s') ((i:Int) + 1)) [((i:Int) + 1,(S.bg i:Int))])) (S.cp i) (cutOut (S.ents (S.cp i)) (ahead (S.ents (S.cp i)) ((i:Int) + 1)) 1):=by
 funext t
 have e0:(S.move L i s' lv').ents t = entsOf S.bg ((S.move L i s' lv').sel t):=rfl
 rw [e0,sel_move S L i s' lv' ht hne t]
 by_cases e1:t = s'
 · subst e1
   rw [if_pos rfl,upd_ne _ _ _ hne,upd_same]
   exact ents_enter S.bg _ i hi (by simp [St.sel];intro _ h;exact hne h.symm)
 · rw [if_neg e1]
   by_cases e2:t = S.cp i
   · subst e2
     rw [if_pos rfl,upd_same]
     exact (ents_despawn S.bg _ i hi (by simp [St.sel,ht])).2
   · rw [if_neg e2,upd_ne _ _ _ e2,upd_ne _ _ _ e1]
     rfl
theorem cells_move_from (S:St) (L:List CompS) (i s':Nat) (lv':Nat → Nat → Value) (hi:i < 20) (ht:S.tk i = true) (hne:s' ≠ S.cp i) (k f:Nat) :
 (S.move L i s' lv').cells L (S.cp i) k f = cutOut (S.cells L (S.cp i) k f) (ahead (S.ents (S.cp i)) ((i:Int) + 1) * kSz (kindAt L k f)) (kSz (kindAt L k f)):=by
 unfold St.cells
 rw [sel_move S L i s' lv' ht hne,if_neg (Ne.symm hne),if_pos rfl]
 exact cells_cut S.bg (S.sel (S.cp i)) _ _ _ i hi (by simp [St.sel,ht]) (fun j hj => by simp [St.move,upd,hj]) (fun j => fvCells_len _ _ _)
theorem cells_move_else (S:St) (L:List CompS) (i s':Nat) (lv':Nat → Nat → Value) (ht:S.tk i = true) (hne:s' ≠ S.cp i) (t k f:Nat) (h1:t ≠ s') (h2:t ≠ S.cp i) :
 (S.move L i s' lv').cells L t k f = S.cells L t k f:=by
 unfold St.cells
 rw [sel_move S L i s' lv' ht hne,if_neg h1,if_neg h2]
 refine cells_same fun j hj => ?_
 have:j ≠ i:=by
  intro e
  subst e
  simp [St.sel] at hj
  exact h2 hj.2.symm
 simp [St.move,upd,this]
theorem cells_move_to (S:St) (L:List CompS) (i s':Nat) (lv':Nat → Nat → Value) (hi:i < 20) (ht:S.tk i = true) (hne:s' ≠ S.cp i) (k f:Nat) (hq:hasC s' (kinds L) k = true) (hf:f < ((kinds L).getD k []).length) :
 (S.move L i s' lv').cells L s' k f = takenX (S.cp i) (kinds L) (ahead (setIn (S.ents s') (ahead (S.ents s') ((i:Int) + 1)) [((i:Int) + 1,(S.bg i:Int))]) ((i:Int) + 1)) (fun k f => setIn (S.cells L s' k f) (ahead (S.ents s') ((i:Int) + 1) * kSz (kindAt L k f)) (kZero (kindAt L k f))) (S.vals i) lv' k f:=by
 have hsi:S.sel s' i = false:=by simp [St.sel];intro _ h;exact hne h.symm
 have e0:setIn (S.ents s') (ahead (S.ents s') ((i:Int) + 1)) [((i:Int) + 1,(S.bg i:Int))] = entsOf S.bg (upd (S.sel s') i true):=(ents_enter S.bg _ i hi hsi).symm
 have kk:((kinds L).getD k []).getD f 0 = kindAt L k f:=rfl
 have hz:(kZero (kindAt L k f)) = fvCells (kindAt L k f) .zero (.slice none 0 0):=(fvCells_zero _).symm
 have h1:setIn (S.cells L s' k f) (ahead (S.ents s') ((i:Int) + 1) * kSz (kindAt L k f)) (kZero (kindAt L k f)) = cellsOf (upd (S.sel s') i true) (fun j => if j = i then kZero (kindAt L k f) else fvCells (kindAt L k f) (S.vals j k f) (S.lv j k f)):=by
  have:=cells_spawn S.bg (S.sel s') (fun j => fvCells (kindAt L k f) (S.vals j k f) (S.lv j k f)) (fun j => if j = i then kZero (kindAt L k f) else fvCells (kindAt L k f) (S.vals j k f) (S.lv j k f)) (kSz (kindAt L k f)) i hi hsi (fun j hj => if_neg hj) (fun j => fvCells_len _ _ _)
  simp only [if_true] at this
  exact this.symm
 unfold takenX
 simp only [kk]
 rw [e0,h1]
 have e2:(S.move L i s' lv').cells L s' k f = cellsOf (upd (S.sel s') i true) (fun j => fvCells (kindAt L k f) ((S.move L i s' lv').vals j k f) ((S.move L i s' lv').lv j k f)):=by
  unfold St.cells
  rw [sel_move S L i s' lv' ht hne,if_pos rfl]
 rw [e2]
 by_cases hs:hasC (S.cp i) (kinds L) k = true
 · rw [if_pos hs]
   have hkb:keepsB L (S.cp i) s' k f = true:=by simp [keepsB,hs,hq];simpa using hf
   have hgi:fvCells (kindAt L k f) ((S.move L i s' lv').vals i k f) ((S.move L i s' lv').lv i k f) = fvCells (kindAt L k f) (S.vals i k f) (lv' k f):=by
    simp only [St.move,upd_same,hkb,if_true]
    rfl
   rw [← hgi]
   refine cells_put S.bg _ _ (fun j => fvCells (kindAt L k f) ((S.move L i s' lv').vals j k f) ((S.move L i s' lv').lv j k f)) (kSz (kindAt L k f)) i hi (upd_same _ _ _) (fun j hj => ?_) (fun j => ?_) (fvCells_len _ _ _)
   · simp only [if_neg hj,St.move,upd_ne _ _ _ hj]
   · split
     · rw [hz];exact fvCells_len _ _ _
     · exact fvCells_len _ _ _
 · rw [if_neg hs]
   have hkb:keepsB L (S.cp i) s' k f = false:=by simp [keepsB,hs]
   refine cells_same fun j _ => ?_
   by_cases hj:j = i
   · subst hj
     simp only [St.move,upd_same,hkb,if_true]
     rw [hz];rfl
   · simp only [if_neg hj,St.move,upd_ne _ _ _ hj]
def TakeMid (w2:World) (own2:Nat → Nat) (w3:World) (own3:Nat → Nat) (b bm n s s':Nat) (m:Nat → Option Nat) (L:List CompS) (ents:Nat → List (Int × Int)) (xs:Nat → Nat → Nat → List Value) (p:Int) (x:Nat → Nat → FV) (lv:Nat → Nat → Value):Prop :=
 Turns w2 w3 (fun j => 32 ≤ own2 j) ∧ (∀ j,j < w2.heap.size → own3 j = own2 j) ∧ (∀ j,w3.heap.size ≤ j → own3 j = 0) ∧ TabsIn w3 own3 b bm n m L ents (upd xs s' (takenX s (kinds L) (ahead (ents s') p) (xs s') x lv)) ∧
  ∀ k f,keepsB L s s' k f = true → k < 6 → ListNew w3 w2.heap.size (lv k f) (gL (kindAt L k f) (x k f)) ∧ ∀ j,(lv k f).ownBlock = some j → own3 j = 4
theorem take_mid (own:Nat → Nat) (b bm n s s' tb tb':Nat) (m:Nat → Option Nat) (L:List CompS) (ents:Nat → List (Int × Int)) (xs:Nat → Nat → Nat → List Value) (p lf:Int) (x:Nat → Nat → FV) (v:Nat → Nat → Value) (w:World) (hT:TabsIn w own b bm n m L ents xs) (hme:own b = 1) (hlt:b < w.heap.size) (hout:∀ j,w.heap.size ≤ j → own j = 0) (hs:s < 64) (hs':s' < 64) (hne:s' ≠ s) (hm:m s = some tb) (hm':m s' = some tb')
 (hkl:∀ k,((kinds L).getD k []).length ≤ 4) (hkk:∀ k,∀ x ∈ (kinds L).getD k [],1 ≤ x ∧ x ≤ 5) (hl:(ents s).length ≤ 99) (hsort:(ents s).Pairwise fun a b => a.1 < b.1) (hin:ahead (ents s) p < (ents s).length) (hl':(ents s').length ≤ 99) (hsort':(ents s').Pairwise fun a b => a.1 < b.1) (hin':ahead (ents s') p < (ents s').length)
 (hrow:∀ k f,∀ o,o < kSz (kindAt L k f) → (xs s k f)[ahead (ents s) p * kSz (kindAt L k f) + o]? = (fvCells (kindAt L k f) (x k f) (v k f))[o]?)
 (hv:∀ k f,w.ownsRow 0 3 1 (v k f) (x k f).ls.length ((x k f).ls.map (Value.int .i64)) ∧ ∀ j,(v k f).ownBlock = some j → own j = 4) (hx:∀ k f,(x k f).ls.length ≤ 100 ∧ (x k f).s.length ≤ 1000) :
 Calls Tryz.prog 128 #[.pointer (some ⟨tb',0,none⟩),.agg #[.int .i64 p,.int .i64 lf],.pointer (some ⟨tb,0,none⟩)] w fun e w3 => e = .returned (.tuple #[]) ∧ ∃ own3 lv,TakeMid w own w3 own3 b bm n s s' m L ents xs p x lv:=by
 have get:∀ t tt,t < 64 → m t = some tt → TabC w own (32 * (1 + t)) tt t (kinds L) (ents t) (xs t):=fun t tt ht hmt => by
  rcases hT.tab t ht with ⟨q,_⟩ | ⟨tb',q1,q2⟩
  · rw [hmt] at q;cases q
  · rw [hmt] at q1;cases q1;exact q2
 refine (take_tab own (32 * (1 + s')) tb' s' (kinds L) (ents s') (xs s') (32 * (1 + s)) tb s (ents s) (xs s) p lf x v w (get s' tb' hs' hm') (get s tb hs hm) hout (by omega) (by omega) hkl hkk hl' hsort' hin' hl hsort hin (fun k f _ o ho => hrow k f o ho) (fun k f W hW => ?_) hx).mono ?_
 · obtain ⟨l1,l2⟩:=hv k f
   exact ints_own (own_turn l1 fun j hj hjl => hW.block j hjl fun ⟨k',f',_,_,e⟩ => by rw [l2 j hj] at e;unfold lCol at e;omega)
 · rintro e w3 ⟨rfl,t1,lv,t2,t3⟩
   have hsz:=t1.size
   obtain ⟨own3,o1,o2,o3⟩:∃ own3:Nat → Nat,(∀ j,j < w.heap.size → own3 j = own j) ∧ (∀ j,w3.heap.size ≤ j → own3 j = 0) ∧ ∀ j,w.heap.size ≤ j → j < w3.heap.size → (∃ k f,keepsB L s s' k f = true ∧ k < 6 ∧ (lv k f).ownBlock = some j) → own3 j = 4:=by
    classical
    refine ⟨fun j => if j < w.heap.size then own j else if j < w3.heap.size ∧ ∃ k f,keepsB L s s' k f = true ∧ k < 6 ∧ (lv k f).ownBlock = some j then 4 else 0,fun j hj => if_pos hj,fun j hj => ?_,fun j h1 h2 h3 => ?_⟩
    · show (if j < w.heap.size then own j else if _ then 4 else 0) = 0
      rw [if_neg (by omega),if_neg (by omega)]
    · show (if j < w.heap.size then own j else if _ then 4 else 0) = 4
      rw [if_neg (by omega),if_pos ⟨h2,h3⟩]
   have eb:w3.heap[b]? = w.heap[b]?:=t1.block b hlt fun ⟨k,f,_,_,e⟩ => by omega
   have hml:=hT.map.lt
   have em:w3.heap[bm]? = w.heap[bm]?:=t1.block bm hml fun ⟨k,f,_,_,e⟩ => by rw [hT.lab] at e;omega
   refine ⟨rfl,own3,lv,⟨t1.os,t1.tape,t1.output,t1.size,fun j hj hn => t1.block j hj fun ⟨k,f,_,_,e⟩ => hn (by omega)⟩,o1,o2,⟨(World.cell?_of_block (a:=⟨b,61,none⟩) eb).trans hT.c61,(o1 bm hml).trans hT.lab,hT.map.turn em,fun t ht => ?_⟩,fun k f hk hk6 => ?_⟩
   · by_cases e:t = s'
     · subst e
       rw [upd_same]
       refine Or.inr ⟨tb',hm',t2.turn hkl fun j hj h3 h4 => ⟨rfl,?_⟩⟩
       by_cases hq:j < w.heap.size
       · exact o1 j hq
       · rw [hout j (by omega)] at h3;omega
     · rw [upd_ne _ _ _ e]
       rcases hT.tab t ht with q | ⟨tt,q1,q2⟩
       · exact Or.inl q
       · refine Or.inr ⟨tt,q1,q2.turn hkl fun j hj h3 h4 => ⟨t1.block j hj fun ⟨k,f,_,_,e'⟩ => ?_,o1 j hj⟩⟩
         unfold lCol at e';omega
   · have hk':=hk
     simp only [keepsB,Bool.and_eq_true,decide_eq_true_eq] at hk'
     have hn:=t3 k f hk'.1 hk'.2.2 hk6 hk'.2.1
     exact ⟨hn,fun j hj => o3 j (hn.lt j hj).1 (hn.lt j hj).2 ⟨k,f,hk,hk6,hj⟩⟩
theorem PlacesAt.recomp {w:World} {b:Nat} {bg:Nat → Nat} {tk:Nat → Bool} {cp:Nat → Nat} (h:PlacesAt w b bg tk cp) (i s:Nat) (hi:i < 20):PlacesAt (w.setCell ⟨b,1 + i * 3 + 2,none⟩ (.int .u64 (s:Int))) b bg tk (upd cp i s):=by
 refine ⟨by simpa [World.setCell] using h.1,fun j hj => ?_⟩
 obtain ⟨a1,a2,a3,a4,a5,a6⟩:=h.2 j hj
 refine ⟨?_,?_,?_,by simpa using a4,by simpa using a5,by simpa using a6⟩
 · rw [set_other _ (by omega)];exact a1
 · rw [set_other _ (by omega)];exact a2
 · by_cases e:j = i
   · subst e;rw [set_same (u:=.int .u64 (cp j)) _ a3];simp [upd]
   · rw [set_other _ (by omega)];simpa [upd,e] using a3
theorem places_enter {w w2:World} {b:Nat} {bg:Nat → Nat} {tk:Nat → Bool} {cp:Nat → Nat} (h:PlacesAt w b bg tk cp) (hs:w.heap.size ≤ w2.heap.size) (hc:∀ o,o ≠ 61 → w2.cell? ⟨b,o,none⟩ = w.cell? ⟨b,o,none⟩) (hblk:∃ arr,w2.heap[b]? = some (.cells arr 111 (0,0)) ∧ arr.size = 62):PlacesAt w2 b bg tk cp:=by
 obtain ⟨arr,h1,_⟩:=hblk
 refine ⟨Nat.lt_of_lt_of_le h.1 hs,fun i hi => ?_⟩
 obtain ⟨a1,a2,a3,_⟩:=h.2 i hi
 exact ⟨(hc _ (by omega)).trans a1,(hc _ (by omega)).trans a2,(hc _ (by omega)).trans a3,frozen_row h1 _,frozen_row h1 _,frozen_row h1 _⟩
theorem WT.moved {w w2 w3 w4:World} {own own2 own3 own4:Nat → Nat} {b g lc N bm n:Nat} {m:Nat → Option Nat} {L:List CompS} {S:St} (hW:WT w own b g lc N L S) (i s':Nat) (hi:i < 20) (ht:S.tk i = true) (hs':s' < 64) (hne:s' ≠ S.cp i) (lv:Nat → Nat → Value)
 (hT2:Turns w w2 (Tur own)) (ho2:∀ j,j < w.heap.size → own2 j = own j) (hblk:∃ arr,w2.heap[b]? = some (.cells arr 111 (0,0)) ∧ arr.size = 62) (hc2:∀ o,o ≠ 61 → w2.cell? ⟨b,o,none⟩ = w.cell? ⟨b,o,none⟩)
 (hTM:TakeMid w2 own2 w3 own3 b bm n (S.cp i) s' m L (upd S.ents s' (setIn (S.ents s') (ahead (S.ents s') ((i:Int) + 1)) [((i:Int) + 1,(S.bg i:Int))])) (upd (S.cells L) s' fun k f => setIn (S.cells L s' k f) (ahead (S.ents s') ((i:Int) + 1) * kSz (kindAt L k f)) (kZero (kindAt L k f))) ((i:Int) + 1) (S.vals i) lv)
 (hT4:Turns w3 w4 (fun j => own3 j = 2 ∨ 32 ≤ own3 j)) (ho4:∀ j,j < w3.heap.size → own4 j = own3 j) (hout4:∀ j,w4.heap.size ≤ j → own4 j = 0)
 (hTW:TabsW w4 own4 b (N + 1) L (upd (upd S.ents s' (setIn (S.ents s') (ahead (S.ents s') ((i:Int) + 1)) [((i:Int) + 1,(S.bg i:Int))])) (S.cp i) (cutOut (S.ents (S.cp i)) (ahead (S.ents (S.cp i)) ((i:Int) + 1)) 1))
  (upd (upd (S.cells L) s' (takenX (S.cp i) (kinds L) (ahead (setIn (S.ents s') (ahead (S.ents s') ((i:Int) + 1)) [((i:Int) + 1,(S.bg i:Int))]) ((i:Int) + 1)) (fun k f => setIn (S.cells L s' k f) (ahead (S.ents s') ((i:Int) + 1) * kSz (kindAt L k f)) (kZero (kindAt L k f))) (S.vals i) lv)) (S.cp i) fun k f => cutOut (S.cells L (S.cp i) k f) (ahead (S.ents (S.cp i)) ((i:Int) + 1) * kSz (kindAt L k f)) (kSz (kindAt L k f)))) :
 Stp w own (w4.setCell ⟨b,1 + i * 3 + 2,none⟩ (.int .u64 (s':Int))) own4 ∧ WT (w4.setCell ⟨b,1 + i * 3 + 2,none⟩ (.int .u64 (s':Int))) own4 b g lc (N + 1) L (S.move L i s' lv) ∧ w4.frozen? ⟨b,1 + i * 3 + 2,none⟩ = false ∧ w4.cell? ⟨b,1 + i * 3 + 2,none⟩ = some (.int .u64 (S.cp i:Int)):=by
 obtain ⟨t1,t2,t3,t4,t5⟩:=hTM
 have hlt:=hW.lt
 have z2:=hT2.size
 have z3:=t1.size
 have z4:=hT4.size
 have hme:=hW.me
 have hkl:=hW.lay.kl
 have e23:∀ j,j < w2.heap.size → own2 j < 32 → w3.heap[j]? = w2.heap[j]?:=fun j hj h => t1.block j hj (by omega)
 have e34:∀ j,j < w3.heap.size → own3 j ≠ 2 → own3 j < 32 → w4.heap[j]? = w3.heap[j]?:=fun j hj h h' => hT4.block j hj (by omega)
 have oo:∀ j,j < w.heap.size → own4 j = own j:=fun j hj => (ho4 j (by omega)).trans ((t2 j (by omega)).trans (ho2 j hj))
 have e24:∀ j,j < w.heap.size → own j ≠ 2 → own j < 32 → w4.heap[j]? = w2.heap[j]?:=fun j hj h h' => (e34 j (by omega) (by rw [t2 j (by omega),ho2 j hj];exact h) (by rw [t2 j (by omega),ho2 j hj];exact h')).trans (e23 j (by omega) (by rw [ho2 j hj];exact h'))
 have eb4:w4.heap[b]? = w2.heap[b]?:=e24 b hlt (by omega) (by omega)
 have hP2:PlacesAt w2 b S.bg S.tk S.cp:=places_enter hW.places z2 hc2 hblk
 have hP4:PlacesAt w4 b S.bg S.tk S.cp:=hP2.kept (by omega) eb4
 obtain ⟨arr,ha,has⟩:=hblk
 have hset:(w4.setCell ⟨b,1 + i * 3 + 2,none⟩ (.int .u64 (s':Int))).heap[b]? = some (.cells (arr.setIfInBounds (1 + i * 3 + 2) (.int .u64 (s':Int))) 111 (0,0)):=setCell_block _ (eb4.trans ha)
 have hsz5:(w4.setCell ⟨b,1 + i * 3 + 2,none⟩ (.int .u64 (s':Int))).heap.size = w4.heap.size:=by simp [World.setCell]
 have h5:∀ j,j ≠ b → (w4.setCell ⟨b,1 + i * 3 + 2,none⟩ (.int .u64 (s':Int))).heap[j]? = w4.heap[j]?:=fun j hj => Below.heap_setCell _ _ _ _ hj
 have hTot:Turns w (w4.setCell ⟨b,1 + i * 3 + 2,none⟩ (.int .u64 (s':Int))) (Tur own):=by
  refine ⟨?_,?_,?_,by rw [hsz5];omega,fun j hj hn => ?_⟩
  · rw [show (w4.setCell ⟨b,1 + i * 3 + 2,none⟩ (.int .u64 (s':Int))).os = w4.os by simp [World.setCell],hT4.os,t1.os,hT2.os]
  · rw [show (w4.setCell ⟨b,1 + i * 3 + 2,none⟩ (.int .u64 (s':Int))).tape = w4.tape by simp [World.setCell],hT4.tape,t1.tape,hT2.tape]
  · rw [show (w4.setCell ⟨b,1 + i * 3 + 2,none⟩ (.int .u64 (s':Int))).output = w4.output by simp [World.setCell],hT4.output,t1.output,hT2.output]
  · have hq:own j ≠ 1 ∧ own j ≠ 2 ∧ own j < 32:=by unfold Tur at hn;omega
    rw [h5 j (by rintro rfl;omega),e24 j hj hq.2.1 hq.2.2,hT2.block j hj hn]
 refine ⟨⟨hTot,oo⟩,{ me:=(oo b hlt).trans hme,low:=fun j hj => (oo j (by omega)).trans (hW.low j hj),out:=fun j hj => hout4 j (by omega),blk:=⟨_,hset,by simp [has]⟩,places:=hP4.recomp i s' hi,bgs:=hW.bgs,cps:=fun j hj htj => ?_,c0:=?_,lcle:=hW.lcle,lay:=hW.lay.below (by rw [hsz5];omega) (fun j hj => hTot.block j (by omega) (by rw [show Tur own j = (own j = 1 ∨ own j = 2 ∨ 32 ≤ own j) from rfl,hW.low j hj];omega)),tabs:=?_,lists:=fun j hj k f => ?_ },(hP4.2 i hi).2.2.2.2.2,(hP4.2 i hi).2.2.1⟩
 · show upd S.cp i s' j < 64
   by_cases e:j = i
   · subst e;rw [upd_same];exact hs'
   · rw [upd_ne _ _ _ e];exact hW.cps j hj htj
 · rw [set_other _ (Or.inr (by omega)),World.cell?_of_block (a:=⟨b,0,none⟩) eb4,hc2 0 (by decide)]
   exact hW.c0
 · rw [ents_move S L i s' lv hi ht hne]
   have hcell61:(w4.setCell ⟨b,1 + i * 3 + 2,none⟩ (.int .u64 (s':Int))).cell? ⟨b,61,none⟩ = w4.cell? ⟨b,61,none⟩:=set_other _ (Or.inr (by omega))
   have hTW5:=hTW.turn (W':=w4.setCell ⟨b,1 + i * 3 + 2,none⟩ (.int .u64 (s':Int))) (own':=own4) hkl hcell61 (fun k hk h => ⟨h5 k (by rintro rfl;rw [oo k hlt,hme] at h;omega),rfl⟩)
   rcases hTW5 with ⟨q1,q2⟩ | ⟨bm',n',m',q,qn⟩
   · exfalso
     have:=(q2 s' hs').1
     rw [upd_ne _ _ _ hne,upd_same] at this
     simp [setIn] at this
   · refine Or.inr ⟨bm',n',m',⟨q.c61,q.lab,q.map,fun t htt => ?_⟩,qn⟩
     rcases q.tab t htt with ⟨r1,r2,r3⟩ | ⟨tt,r1,r2⟩
     · refine Or.inl ⟨r1,r2,?_⟩
       by_cases e2:t = S.cp i
       · subst e2
         rw [upd_same] at r3
         rw [← r3]
         funext k f
         exact cells_move_from S L i s' lv hi ht hne k f
       · by_cases e1:t = s'
         · subst e1
           rw [upd_ne _ _ _ e2,upd_same] at r2
           simp [setIn] at r2
         · rw [upd_ne _ _ _ e2,upd_ne _ _ _ e1] at r3
           rw [← r3]
           funext k f
           exact cells_move_else S L i s' lv ht hne t k f e1 e2
     · refine Or.inr ⟨tt,r1,r2.eqv fun k f hk hq hf => ?_⟩
       by_cases e2:t = S.cp i
       · subst e2
         rw [upd_same]
         exact cells_move_from S L i s' lv hi ht hne k f
       · rw [upd_ne _ _ _ e2]
         by_cases e1:t = s'
         · subst e1
           rw [upd_same]
           exact cells_move_to S L i t lv hi ht hne k f hq hf
         · rw [upd_ne _ _ _ e1]
           exact cells_move_else S L i s' lv ht hne t k f e1 e2
 · by_cases e:j = i
   · subst e
     simp only [St.move,upd_same]
     by_cases hkp:keepsB L (S.cp j) s' k f = true
     · simp only [hkp,if_true]
       have hk6:k < 6:=by
        simp only [keepsB,hasC,Bool.and_eq_true,decide_eq_true_eq] at hkp
        have:=hW.lay.few
        simp [kinds] at hkp
        omega
       obtain ⟨l1,l2⟩:=t5 k f hkp hk6
       have e1:(FV.norm (kindAt L k f) (S.vals j k f)).ls = gL (kindAt L k f) (S.vals j k f):=by unfold FV.norm gL;rfl
       rw [e1]
       refine ⟨own_turn (own_base l1 (Nat.zero_le _)) fun q hq hql => ?_,fun q hq => (ho4 q (l1.lt q hq).2).trans (l2 q hq)⟩
       have h4:=l2 q hq
       rw [h5 q (by rintro rfl;have:=(l1.lt q hq).1;omega),e34 q hql (by omega) (by omega)]
     · simp only [hkp]
       exact ⟨World.ownsRow_nil _ _ _ _,fun q hq => by cases hq⟩
   · simp only [St.move,upd_ne _ _ _ e]
     obtain ⟨l1,l2⟩:=hW.lists j hj k f
     refine ⟨own_turn l1 fun q hq hql => hTot.block q hql ?_,fun q hq => (oo q (l1.lt q hq).2).trans (l2 q hq)⟩
     have:=l2 q hq
     unfold Tur
     omega
end Go.Proofs.YthkbeaffkcfgiabGreatDoor
