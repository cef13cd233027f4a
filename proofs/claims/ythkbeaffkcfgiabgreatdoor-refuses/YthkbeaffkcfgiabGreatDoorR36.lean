import Derived.Deep.DeepCutAuto
import Derived.Deep.RegionHeld3
import Derived.Test.YthkbeaffkcfgiabGreatDoorR34
set_option linter.unusedSimpArgs false
set_option linter.unusedVariables false
namespace Go.Proofs.YthkbeaffkcfgiabGreatDoor
open Go.RowKit
def EntCut (W1:World) (cp:Nat) (L:List CompS) (x:Nat → Nat → FV) (s:Value) (wx:World):Prop :=
 ∃ eb sl lv,s = .pointer (some ⟨eb,0,none⟩) ∧ W1.heap.size ≤ eb ∧ wx.heap[eb]? = some (.cells #[.int .u64 cp,sl 0,sl 1,sl 2,sl 3,sl 4,sl 5] 164 (0,0)) ∧ ValsG wx W1.heap.size L x (cntC cp L) sl lv ∧ Below W1.heap.size W1 wx
theorem ent_cut {W1 wv wx:World} {cp:Nat} {L:List CompS} {x:Nat → Nat → FV} {sl:Nat → Value} {lv:Nat → Nat → Value} (hG:ValsG wv W1.heap.size L x (cntC cp L) sl lv) (hb:Below wv.heap.size wv wx) (hB:Below W1.heap.size W1 wx) (hs:sl = sl):EntCut W1 cp L x (.pointer (some ⟨wx.heap.size,0,none⟩)) (wx.alloc (.cells #[.int .u64 cp,sl 0,sl 1,sl 2,sl 3,sl 4,sl 5] 164)) :=
 ⟨wx.heap.size,sl,lv,rfl,hB.size,heap_alloc_at rfl _,(hG.below hb).below ((Below.refl _ _).alloc (Nat.le_refl _) _),hB.alloc hB.size _⟩
abbrev ent0:Obj:=.cells #[.int .u64 0,.slice none 0 0,.slice none 0 0,.slice none 0 0,.slice none 0 0,.slice none 0 0,.slice none 0 0] 164 (0,0)
theorem Tryz.size164:(Tryz.prog.info? 164).map (·.size) = some 7:=by kernel_rfl
def Ent0 (W:World) (eb:Nat):Prop:=(W.cell? ⟨eb,0,none⟩ = some (.int .u64 0) ∧ W.cell? ⟨eb,1,none⟩ = some (.slice none 0 0) ∧ W.cell? ⟨eb,2,none⟩ = some (.slice none 0 0) ∧ W.cell? ⟨eb,3,none⟩ = some (.slice none 0 0) ∧ W.cell? ⟨eb,4,none⟩ = some (.slice none 0 0) ∧ W.cell? ⟨eb,5,none⟩ = some (.slice none 0 0) ∧ W.cell? ⟨eb,6,none⟩ = some (.slice none 0 0)) ∧
 (W.frozen? ⟨eb,0,none⟩ = false ∧ W.frozen? ⟨eb,1,none⟩ = false ∧ W.frozen? ⟨eb,2,none⟩ = false ∧ W.frozen? ⟨eb,3,none⟩ = false ∧ W.frozen? ⟨eb,4,none⟩ = false ∧ W.frozen? ⟨eb,5,none⟩ = false ∧ W.frozen? ⟨eb,6,none⟩ = false)
theorem ent0_at {W:World} {eb:Nat} (h:W.heap[eb]? = some ent0):Ent0 W eb:=by
 refine ⟨⟨?_,?_,?_,?_,?_,?_,?_⟩,frozen_row h _,frozen_row h _,frozen_row h _,frozen_row h _,frozen_row h _,frozen_row h _,frozen_row h _⟩ <;> (rw [cell_row h];rfl)
abbrev set7 (W:World) (g:Nat) (y0 y1 y2 y3 y4 y5 y6:Value):World:=((((((W.setCell ⟨g,0,none⟩ y0).setCell ⟨g,1,none⟩ y1).setCell ⟨g,2,none⟩ y2).setCell ⟨g,3,none⟩ y3).setCell ⟨g,4,none⟩ y4).setCell ⟨g,5,none⟩ y5).setCell ⟨g,6,none⟩ y6
theorem set7_block {W:World} {g:Nat} (h:W.heap[g]? = some ent0) (y0 y1 y2 y3 y4 y5 y6:Value):(set7 W g y0 y1 y2 y3 y4 y5 y6).heap[g]? = some (.cells #[y0,y1,y2,y3,y4,y5,y6] 164 (0,0)):=by
 unfold set7
 rw [setCell_block _ (setCell_block _ (setCell_block _ (setCell_block _ (setCell_block _ (setCell_block _ (setCell_block _ h))))))]
 rfl
theorem set7_other (W:World) (g:Nat) (y0 y1 y2 y3 y4 y5 y6:Value) (j:Nat) (h:j ≠ g):(set7 W g y0 y1 y2 y3 y4 y5 y6).heap[j]? = W.heap[j]?:=by
 unfold set7
 rw [Below.heap_setCell _ _ _ _ h,Below.heap_setCell _ _ _ _ h,Below.heap_setCell _ _ _ _ h,Below.heap_setCell _ _ _ _ h,Below.heap_setCell _ _ _ _ h,Below.heap_setCell _ _ _ _ h,Below.heap_setCell _ _ _ _ h]
theorem ent_cut7 {W1 wv wx:World} {cp eb:Nat} {L:List CompS} {x:Nat → Nat → FV} {sl:Nat → Value} {lv:Nat → Nat → Value} (hG:ValsG wv W1.heap.size L x (cntC cp L) sl lv) (hb:Below wv.heap.size wv wx) (hB:Below W1.heap.size W1 wx) (he:wx.heap[eb]? = some ent0) (hlo:W1.heap.size ≤ eb):EntCut W1 cp L x (.pointer (some ⟨eb,0,none⟩)) (set7 wx eb (.int .u64 cp) (sl 0) (sl 1) (sl 2) (sl 3) (sl 4) (sl 5)):=by
 have hG2:=hG.below hb
 have hne:∀ k j,k < 6 → (sl k).ownBlock = some j → j ≠ eb:=fun k j hk hj e => by
  obtain ⟨c1,q1⟩:=row56 (hG2.rows k hk) hj
  rw [e,he] at q1;simp at q1
 have ho:=fun j h => set7_other wx eb (.int .u64 cp) (sl 0) (sl 1) (sl 2) (sl 3) (sl 4) (sl 5) j h
 refine ⟨eb,sl,lv,rfl,hlo,set7_block he _ _ _ _ _ _ _,⟨fun k hk => own_turn (hG2.rows k hk) fun j hj _ => ho j (hne k j hk hj),hG2.apart,fun k hk f hf => own_turn (hG2.lists k hk f hf) fun j hj _ => ho j ?_⟩,?_⟩
 · rintro rfl
   obtain ⟨c1,q1⟩:=row3 (hG2.lists k hk f hf) hj
   rw [he] at q1;simp at q1
 · unfold set7
   exact ((((((hB.setCell hlo _).setCell hlo _).setCell hlo _).setCell hlo _).setCell hlo _).setCell hlo _).setCell hlo _
theorem hs_alloc {W:World} {h b:Nat} {q:Nat} {v0 v1 v2:Value} (o:Obj) (hh:W.cell? ⟨h,0,none⟩ = some v0 ∧ W.cell? ⟨h,1,none⟩ = some v1 ∧ W.cell? ⟨b,q,none⟩ = some v2 ∧ h < W.heap.size ∧ b < W.heap.size):(W.alloc o).cell? ⟨h,0,none⟩ = some v0 ∧ (W.alloc o).cell? ⟨h,1,none⟩ = some v1 ∧ (W.alloc o).cell? ⟨b,q,none⟩ = some v2 ∧ h < (W.alloc o).heap.size ∧ b < (W.alloc o).heap.size:=by
 obtain ⟨h0,h1,h2,h3,h4⟩:=hh
 exact ⟨(World.cell?_alloc_lt _ _ _ h3).trans h0,(World.cell?_alloc_lt _ _ _ h3).trans h1,(World.cell?_alloc_lt _ _ _ h4).trans h2,by simp;omega,by simp;omega⟩
theorem hs_drew {W:World} {h b:Nat} {q:Nat} {v0 v1 v2:Value} (o:Obj) (hh:W.cell? ⟨h,0,none⟩ = some v0 ∧ W.cell? ⟨h,1,none⟩ = some v1 ∧ W.cell? ⟨b,q,none⟩ = some v2 ∧ h < W.heap.size ∧ b < W.heap.size):(W.alloc o).drew.cell? ⟨h,0,none⟩ = some v0 ∧ (W.alloc o).drew.cell? ⟨h,1,none⟩ = some v1 ∧ (W.alloc o).drew.cell? ⟨b,q,none⟩ = some v2 ∧ h < (W.alloc o).drew.heap.size ∧ b < (W.alloc o).drew.heap.size:=hs_alloc o hh
theorem hs_set {W:World} {h b:Nat} {q eb o:Nat} {v0 v1 v2 u:Value} (n1:h ≠ eb) (n2:b ≠ eb) (hh:W.cell? ⟨h,0,none⟩ = some v0 ∧ W.cell? ⟨h,1,none⟩ = some v1 ∧ W.cell? ⟨b,q,none⟩ = some v2 ∧ h < W.heap.size ∧ b < W.heap.size):(W.setCell ⟨eb,o,none⟩ u).cell? ⟨h,0,none⟩ = some v0 ∧ (W.setCell ⟨eb,o,none⟩ u).cell? ⟨h,1,none⟩ = some v1 ∧ (W.setCell ⟨eb,o,none⟩ u).cell? ⟨b,q,none⟩ = some v2 ∧ h < (W.setCell ⟨eb,o,none⟩ u).heap.size ∧ b < (W.setCell ⟨eb,o,none⟩ u).heap.size:=by
 obtain ⟨h0,h1,h2,h3,h4⟩:=hh
 exact ⟨(set_other _ (Or.inl n1)).trans h0,(set_other _ (Or.inl n1)).trans h1,(set_other _ (Or.inl n2)).trans h2,by simpa [World.setCell] using h3,by simpa [World.setCell] using h4⟩
set_option maxHeartbeats 3200000 in
set_option maxRecDepth 100000 in
theorem entity_wt (own:Nat → Nat) (b g lc N i:Nat) (lf:Int) (L:List CompS) (S:St) (ca:Array Value) (cnts:List Int) (w:World) (hW:WT w own b g lc N L S) (hi:i < 20) (ht:S.tk i = true) (hca:∀ j,j < 21 → ca[j]? = some (.int .i64 (cnts.getD j 0)))
 (hp:∀ k f,kindAt L k f = 4 → f < cntC (S.cp i) L k → 0 ≤ (S.vals i k f).p ∧ (S.vals i k f).p ≤ 20) (hls:∀ k f,(S.vals i k f).ls.length ≤ 100) :
 Calls Tryz.prog 97 #[.pointer (some ⟨b,0,none⟩),.agg #[.int .i64 ((i:Int) + 1),.int .i64 lf],.agg ca] w fun e w' => ∃ sl lv,e = .returned (.agg #[.int .u64 (S.cp i),sl 0,sl 1,sl 2,sl 3,sl 4,sl 5]) ∧ EntOwn w' w.heap.size (entOf L (S.cp i) (S.vals i) cnts) sl lv ∧ Below w.heap.size w w':=by
 have hlt:=hW.lt
 obtain ⟨tb,hTO⟩:=hW.tabOf i hi ht
 obtain ⟨W1,hW1⟩:∃ W1,W1 = ((w.alloc (.cells #[.int .i64 ((i:Int) + 1),.int .i64 lf] 46)).alloc (.cells ca 160)).alloc (.cells #[.int .u64 0,.slice none 0 0,.slice none 0 0,.slice none 0 0,.slice none 0 0,.slice none 0 0,.slice none 0 0] 164):=⟨_,rfl⟩
 have hB1:Below w.heap.size w W1:=by rw [hW1];exact (((Below.refl _ _).alloc (Nat.le_refl _) _).alloc (by simp) _).alloc (by simp;omega) _
 have hs1:W1.heap.size = w.heap.size + 3:=by rw [hW1];simp
 have hbh:W1.heap[w.heap.size]? = some (.cells #[.int .i64 ((i:Int) + 1),.int .i64 lf] 46 (0,0)):=by rw [hW1,Below.heap_alloc _ _ _ (by simp;omega),Below.heap_alloc _ _ _ (by simp)];exact heap_alloc_at rfl _
 have hbc:W1.heap[w.heap.size + 1]? = some (.cells ca 160 (0,0)):=by rw [hW1,Below.heap_alloc _ _ _ (by simp)];exact heap_alloc_at (by simp) _
 have hbr:W1.heap[w.heap.size + 2]? = some (.cells #[.int .u64 0,.slice none 0 0,.slice none 0 0,.slice none 0 0,.slice none 0 0,.slice none 0 0,.slice none 0 0] 164 (0,0)):=by rw [hW1];exact heap_alloc_at (by simp) _
 have HCp:Hid (∀ W,Below W1.heap.size W1 W → W.cell? ⟨w.heap.size,0,none⟩ = some (.int .i64 ((i:Int) + 1)) ∧ W.cell? ⟨w.heap.size,1,none⟩ = some (.int .i64 lf) ∧ W.cell? ⟨b,1 + i * 3 + 2,none⟩ = some (.int .u64 (S.cp i)) ∧ w.heap.size < W.heap.size ∧ b < W.heap.size):=fun W hb => by
  have hz:=hb.size
  have q:=(hb.block w.heap.size (by omega)).trans hbh
  exact ⟨by rw [cell_row q];rfl,by rw [cell_row q];rfl,(hb.cell (p:=⟨b,1 + i * 3 + 2,none⟩) (by show b < _;omega)).trans ((hB1.cell (p:=⟨b,1 + i * 3 + 2,none⟩) hlt).trans (hW.places.2 i hi).2.2.1),by omega,by omega⟩
 have HPl:Hid (∀ W,Below W1.heap.size W1 W → Calls Tryz.prog 59 #[.pointer (some ⟨b,0,none⟩),.agg #[.int .i64 ((i:Int) + 1),.int .i64 lf]] W fun e w' => e = .returned (.pointer (some ⟨b,1 + i * 3,none⟩)) ∧ (w'.cell? ⟨w.heap.size,0,none⟩ = some (.int .i64 ((i:Int) + 1)) ∧ w'.cell? ⟨w.heap.size,1,none⟩ = some (.int .i64 lf) ∧ w'.cell? ⟨b,1 + i * 3 + 2,none⟩ = some (.int .u64 (S.cp i)) ∧ w.heap.size < w'.heap.size ∧ b < w'.heap.size) ∧ Hid (Below W.heap.size W w') ∧ Hid (Below W1.heap.size W1 w')):=fun W hb => by
  refine (placeOf_any b i (.int .i64 lf) W hi).mono ?_
  rintro e w' ⟨rfl,hb2⟩
  have hb3:=hb.trans (hb2.mono hb.size)
  exact ⟨rfl,HCp.out w' hb3,hb2,hb3⟩
 have HTo:Hid (∀ W,Below W1.heap.size W1 W → Calls Tryz.prog 74 #[.pointer (some ⟨b,0,none⟩),.agg #[.int .i64 ((i:Int) + 1),.int .i64 lf]] W fun e w' => e = .returned (.pointer (some ⟨tb,0,none⟩)) ∧ (w'.cell? ⟨w.heap.size,0,none⟩ = some (.int .i64 ((i:Int) + 1)) ∧ w'.cell? ⟨w.heap.size,1,none⟩ = some (.int .i64 lf) ∧ w'.cell? ⟨b,1 + i * 3 + 2,none⟩ = some (.int .u64 (S.cp i)) ∧ w.heap.size < w'.heap.size ∧ b < w'.heap.size) ∧ Hid (Below W1.heap.size W1 w')):=fun W hb => by
  have hbw:Below w.heap.size w W:=hB1.trans (hb.mono hB1.size)
  refine (tableOf_wt own b g lc N i tb lf L S W (hW.below hbw) hi ht (hTO.below hbw)).mono ?_
  rintro e w' ⟨rfl,hb2⟩
  have hb3:=hb.trans (hb2.mono hb.size)
  exact ⟨rfl,HCp.out w' hb3,hb3⟩
 have HVl:Hid (∀ W,Below W1.heap.size W1 W → Calls Tryz.prog 147 #[.pointer (some ⟨tb,0,none⟩),.agg #[.int .i64 ((i:Int) + 1),.int .i64 lf]] W fun e w' => ∃ a0 n0 c0 a1 n1 c1 a2 n2 c2 a3 n3 c3 a4 n4 c4 a5 n5 c5,e = .returned (.agg #[.slice a0 n0 c0,.slice a1 n1 c1,.slice a2 n2 c2,.slice a3 n3 c3,.slice a4 n4 c4,.slice a5 n5 c5]) ∧ (w'.cell? ⟨w.heap.size,0,none⟩ = some (.int .i64 ((i:Int) + 1)) ∧ w'.cell? ⟨w.heap.size,1,none⟩ = some (.int .i64 lf) ∧ w'.cell? ⟨b,1 + i * 3 + 2,none⟩ = some (.int .u64 (S.cp i)) ∧ w.heap.size < w'.heap.size ∧ b < w'.heap.size) ∧ Hid (∃ sl lv,ValsG w' W1.heap.size L (S.vals i) (cntC (S.cp i) L) sl lv ∧ sl 0 = .slice a0 n0 c0 ∧ sl 1 = .slice a1 n1 c1 ∧ sl 2 = .slice a2 n2 c2 ∧ sl 3 = .slice a3 n3 c3 ∧ sl 4 = .slice a4 n4 c4 ∧ sl 5 = .slice a5 n5 c5) ∧ Hid (Below W1.heap.size W1 w')):=fun W hb => by
  have hbw:Below w.heap.size w W:=hB1.trans (hb.mono hB1.size)
  have hW2:=hW.below hbw
  obtain ⟨bm,n,m,q1,q2,q3,q4⟩:=hW2.tabAt i hi ht (hTO.below hbw)
  refine (values_any own (32 * (1 + S.cp i)) tb (S.cp i) L (S.ents (S.cp i)) (S.cells L (S.cp i)) ((i:Int) + 1) lf (S.vals i) (S.lv i) W q4 hW2.lay.kl hW2.lay.kk (Nat.le_trans (ents_lenS _ _) (by omega)) (ents_sortS _ _) (ahead_in S i hi ht) (fun k f _ _ o ho => ?_) (fun k f => ⟨ints_own (hW2.lists i hi k f).1,hls k f⟩)).mono ?_
  · exact cells_row S.bg (S.sel (S.cp i)) (fun i => fvCells (kindAt L k f) (S.vals i k f) (S.lv i k f)) (kSz (kindAt L k f)) i o hi (by simp [St.sel,ht]) (fun j => fvCells_len _ _ _) ho
  · rintro e w' ⟨sl,lv,rfl,hG,hb2⟩
    have hb3:=hb.trans (hb2.mono hb.size)
    have hG2:ValsG w' W1.heap.size L (S.vals i) (cntC (S.cp i) L) sl lv:=hG.base hb.size
    have hf:∀ k,k < 6 → ∃ a n c,sl k = .slice a n c:=fun k hk => by obtain ⟨a,c,z⟩:=own_form (hG.rows k hk);exact ⟨a,_,c,z⟩
    obtain ⟨a0,n0,c0,s0⟩:=hf 0 (by omega)
    obtain ⟨a1,n1,c1,s1⟩:=hf 1 (by omega)
    obtain ⟨a2,n2,c2,s2⟩:=hf 2 (by omega)
    obtain ⟨a3,n3,c3,s3⟩:=hf 3 (by omega)
    obtain ⟨a4,n4,c4,s4⟩:=hf 4 (by omega)
    obtain ⟨a5,n5,c5,s5⟩:=hf 5 (by omega)
    refine ⟨a0,n0,c0,a1,n1,c1,a2,n2,c2,a3,n3,c3,a4,n4,c4,a5,n5,c5,?_,HCp.out w' hb3,⟨sl,lv,hG2,s0,s1,s2,s3,s4,s5⟩,hb3⟩
    unfold colArr
    rw [s0,s1,s2,s3,s4,s5]
 have HPlE:Hid (∀ W eb,Below W1.heap.size W1 W → W.heap[eb]? = some ent0 → Calls Tryz.prog 59 #[.pointer (some ⟨b,0,none⟩),.agg #[.int .i64 ((i:Int) + 1),.int .i64 lf]] W fun e w' => e = .returned (.pointer (some ⟨b,1 + i * 3,none⟩)) ∧ (w'.cell? ⟨w.heap.size,0,none⟩ = some (.int .i64 ((i:Int) + 1)) ∧ w'.cell? ⟨w.heap.size,1,none⟩ = some (.int .i64 lf) ∧ w'.cell? ⟨b,1 + i * 3 + 2,none⟩ = some (.int .u64 (S.cp i)) ∧ w.heap.size < w'.heap.size ∧ b < w'.heap.size) ∧ Hid (Below W.heap.size W w') ∧ Hid (Below W1.heap.size W1 w') ∧ Ent0 w' eb ∧ Hid (w'.heap[eb]? = some ent0)):=fun W eb hb he => by
  refine (placeOf_any b i (.int .i64 lf) W hi).mono ?_
  rintro e w' ⟨rfl,hb2⟩
  have hb3:=hb.trans (hb2.mono hb.size)
  have he2:=(hb2.block eb (Array.getElem?_eq_some_iff.1 he).1).trans he
  exact ⟨rfl,HCp.out w' hb3,hb2,hb3,ent0_at he2,he2⟩
 have HToE:Hid (∀ W eb,Below W1.heap.size W1 W → W.heap[eb]? = some ent0 → Calls Tryz.prog 74 #[.pointer (some ⟨b,0,none⟩),.agg #[.int .i64 ((i:Int) + 1),.int .i64 lf]] W fun e w' => e = .returned (.pointer (some ⟨tb,0,none⟩)) ∧ (w'.cell? ⟨w.heap.size,0,none⟩ = some (.int .i64 ((i:Int) + 1)) ∧ w'.cell? ⟨w.heap.size,1,none⟩ = some (.int .i64 lf) ∧ w'.cell? ⟨b,1 + i * 3 + 2,none⟩ = some (.int .u64 (S.cp i)) ∧ w.heap.size < w'.heap.size ∧ b < w'.heap.size) ∧ Hid (Below W1.heap.size W1 w') ∧ Ent0 w' eb ∧ Hid (w'.heap[eb]? = some ent0)):=fun W eb hb he => by
  have hbw:Below w.heap.size w W:=hB1.trans (hb.mono hB1.size)
  refine (tableOf_wt own b g lc N i tb lf L S W (hW.below hbw) hi ht (hTO.below hbw)).mono ?_
  rintro e w' ⟨rfl,hb2⟩
  have hb3:=hb.trans (hb2.mono hb.size)
  have he2:=(hb2.block eb (Array.getElem?_eq_some_iff.1 he).1).trans he
  exact ⟨rfl,HCp.out w' hb3,hb3,ent0_at he2,he2⟩
 have HVlE:Hid (∀ W eb,Below W1.heap.size W1 W → W.heap[eb]? = some ent0 → Calls Tryz.prog 147 #[.pointer (some ⟨tb,0,none⟩),.agg #[.int .i64 ((i:Int) + 1),.int .i64 lf]] W fun e w' => ∃ a0 n0 c0 a1 n1 c1 a2 n2 c2 a3 n3 c3 a4 n4 c4 a5 n5 c5,e = .returned (.agg #[.slice a0 n0 c0,.slice a1 n1 c1,.slice a2 n2 c2,.slice a3 n3 c3,.slice a4 n4 c4,.slice a5 n5 c5]) ∧ (w'.cell? ⟨w.heap.size,0,none⟩ = some (.int .i64 ((i:Int) + 1)) ∧ w'.cell? ⟨w.heap.size,1,none⟩ = some (.int .i64 lf) ∧ w'.cell? ⟨b,1 + i * 3 + 2,none⟩ = some (.int .u64 (S.cp i)) ∧ w.heap.size < w'.heap.size ∧ b < w'.heap.size) ∧ Hid (∃ sl lv,ValsG w' W1.heap.size L (S.vals i) (cntC (S.cp i) L) sl lv ∧ sl 0 = .slice a0 n0 c0 ∧ sl 1 = .slice a1 n1 c1 ∧ sl 2 = .slice a2 n2 c2 ∧ sl 3 = .slice a3 n3 c3 ∧ sl 4 = .slice a4 n4 c4 ∧ sl 5 = .slice a5 n5 c5) ∧ Hid (Below W1.heap.size W1 w') ∧ Ent0 w' eb ∧ Hid (w'.heap[eb]? = some ent0)):=fun W eb hb he => by
  have hbw:Below w.heap.size w W:=hB1.trans (hb.mono hB1.size)
  have hW2:=hW.below hbw
  obtain ⟨bm,n,m,q1,q2,q3,q4⟩:=hW2.tabAt i hi ht (hTO.below hbw)
  refine (values_any own (32 * (1 + S.cp i)) tb (S.cp i) L (S.ents (S.cp i)) (S.cells L (S.cp i)) ((i:Int) + 1) lf (S.vals i) (S.lv i) W q4 hW2.lay.kl hW2.lay.kk (Nat.le_trans (ents_lenS _ _) (by omega)) (ents_sortS _ _) (ahead_in S i hi ht) (fun k f _ _ o ho => ?_) (fun k f => ⟨ints_own (hW2.lists i hi k f).1,hls k f⟩)).mono ?_
  · exact cells_row S.bg (S.sel (S.cp i)) (fun i => fvCells (kindAt L k f) (S.vals i k f) (S.lv i k f)) (kSz (kindAt L k f)) i o hi (by simp [St.sel,ht]) (fun j => fvCells_len _ _ _) ho
  · rintro e w' ⟨sl,lv,rfl,hG,hb2⟩
    have hb3:=hb.trans (hb2.mono hb.size)
    have he2:=(hb2.block eb (Array.getElem?_eq_some_iff.1 he).1).trans he
    have hG2:ValsG w' W1.heap.size L (S.vals i) (cntC (S.cp i) L) sl lv:=hG.base hb.size
    have hf:∀ k,k < 6 → ∃ a n c,sl k = .slice a n c:=fun k hk => by obtain ⟨a,c,z⟩:=own_form (hG.rows k hk);exact ⟨a,_,c,z⟩
    obtain ⟨a0,n0,c0,s0⟩:=hf 0 (by omega)
    obtain ⟨a1,n1,c1,s1⟩:=hf 1 (by omega)
    obtain ⟨a2,n2,c2,s2⟩:=hf 2 (by omega)
    obtain ⟨a3,n3,c3,s3⟩:=hf 3 (by omega)
    obtain ⟨a4,n4,c4,s4⟩:=hf 4 (by omega)
    obtain ⟨a5,n5,c5,s5⟩:=hf 5 (by omega)
    refine ⟨a0,n0,c0,a1,n1,c1,a2,n2,c2,a3,n3,c3,a4,n4,c4,a5,n5,c5,?_,HCp.out w' hb3,⟨sl,lv,hG2,s0,s1,s2,s3,s4,s5⟩,hb3,ent0_at he2,he2⟩
    unfold colArr
    rw [s0,s1,s2,s3,s4,s5]
 have HPlA:Hid (∀ W,Below W1.heap.size W1 W → Calls Tryz.prog 59 #[.pointer (some ⟨b,0,none⟩),.agg #[.int .i64 ((i:Int) + 1),.int .i64 lf]] (W.alloc ent0) fun e w' => e = .returned (.pointer (some ⟨b,1 + i * 3,none⟩)) ∧ (w'.cell? ⟨w.heap.size,0,none⟩ = some (.int .i64 ((i:Int) + 1)) ∧ w'.cell? ⟨w.heap.size,1,none⟩ = some (.int .i64 lf) ∧ w'.cell? ⟨b,1 + i * 3 + 2,none⟩ = some (.int .u64 (S.cp i)) ∧ w.heap.size < w'.heap.size ∧ b < w'.heap.size) ∧ Hid (Below W.heap.size W w') ∧ Hid (Below W1.heap.size W1 w') ∧ Ent0 w' W.heap.size ∧ Hid (w'.heap[W.heap.size]? = some ent0)):=fun W hb => (HPlE.out (W.alloc ent0) W.heap.size (hb.alloc hb.size _) (heap_alloc_at rfl _)).mono fun e w' ⟨q1,q2,q3,q4⟩ => ⟨q1,q2,((Below.refl _ _).alloc (Nat.le_refl _) _).trans (q3.out.mono (by simp)),q4⟩
 have HToA:Hid (∀ W,Below W1.heap.size W1 W → Calls Tryz.prog 74 #[.pointer (some ⟨b,0,none⟩),.agg #[.int .i64 ((i:Int) + 1),.int .i64 lf]] (W.alloc ent0) fun e w' => e = .returned (.pointer (some ⟨tb,0,none⟩)) ∧ (w'.cell? ⟨w.heap.size,0,none⟩ = some (.int .i64 ((i:Int) + 1)) ∧ w'.cell? ⟨w.heap.size,1,none⟩ = some (.int .i64 lf) ∧ w'.cell? ⟨b,1 + i * 3 + 2,none⟩ = some (.int .u64 (S.cp i)) ∧ w.heap.size < w'.heap.size ∧ b < w'.heap.size) ∧ Hid (Below W1.heap.size W1 w') ∧ Ent0 w' W.heap.size ∧ Hid (w'.heap[W.heap.size]? = some ent0)):=fun W hb => HToE.out (W.alloc ent0) W.heap.size (hb.alloc hb.size _) (heap_alloc_at rfl _)
 have HVlA:Hid (∀ W,Below W1.heap.size W1 W → Calls Tryz.prog 147 #[.pointer (some ⟨tb,0,none⟩),.agg #[.int .i64 ((i:Int) + 1),.int .i64 lf]] (W.alloc ent0) fun e w' => ∃ a0 n0 c0 a1 n1 c1 a2 n2 c2 a3 n3 c3 a4 n4 c4 a5 n5 c5,e = .returned (.agg #[.slice a0 n0 c0,.slice a1 n1 c1,.slice a2 n2 c2,.slice a3 n3 c3,.slice a4 n4 c4,.slice a5 n5 c5]) ∧ (w'.cell? ⟨w.heap.size,0,none⟩ = some (.int .i64 ((i:Int) + 1)) ∧ w'.cell? ⟨w.heap.size,1,none⟩ = some (.int .i64 lf) ∧ w'.cell? ⟨b,1 + i * 3 + 2,none⟩ = some (.int .u64 (S.cp i)) ∧ w.heap.size < w'.heap.size ∧ b < w'.heap.size) ∧ Hid (∃ sl lv,ValsG w' W1.heap.size L (S.vals i) (cntC (S.cp i) L) sl lv ∧ sl 0 = .slice a0 n0 c0 ∧ sl 1 = .slice a1 n1 c1 ∧ sl 2 = .slice a2 n2 c2 ∧ sl 3 = .slice a3 n3 c3 ∧ sl 4 = .slice a4 n4 c4 ∧ sl 5 = .slice a5 n5 c5) ∧ Hid (Below W1.heap.size W1 w') ∧ Ent0 w' W.heap.size ∧ Hid (w'.heap[W.heap.size]? = some ent0)):=fun W hb => HVlE.out (W.alloc ent0) W.heap.size (hb.alloc hb.size _) (heap_alloc_at rfl _)
 have HB1:Hid (Below w.heap.size w W1):=hB1
 have HBc:Hid (W1.heap[w.heap.size + 1]? = some (.cells ca 160 (0,0))):=hbc
 have HBr:Hid (W1.heap[w.heap.size + 2]? = some (.cells #[.int .u64 0,.slice none 0 0,.slice none 0 0,.slice none 0 0,.slice none 0 0,.slice none 0 0,.slice none 0 0] 164 (0,0))):=hbr
 obtain ⟨k0,k1,k2,k3,k4⟩:=HCp.out W1 (Below.refl _ _)
 have HBD:Hid (Below W1.heap.size W1 (W1.alloc ent0).drew):=((Below.refl _ _).alloc (Nat.le_refl _) _).drew
 have HED:Hid ((W1.alloc ent0).drew.heap[W1.heap.size]? = some ent0):=heap_alloc_at (w:=W1) rfl _
 obtain ⟨d0,d1,d2,d3,d4⟩:=HCp.out W1.drew ((Below.refl _ _).drew)
 have HW1:Hid (((w.alloc (.cells #[.int .i64 ((i:Int) + 1),.int .i64 lf] 46)).alloc (.cells ca 160)).alloc (.cells #[.int .u64 0,.slice none 0 0,.slice none 0 0,.slice none 0 0,.slice none 0 0,.slice none 0 0,.slice none 0 0] 164) = W1):=hW1.symm
 have HCa:Hid (∀ j,j < 21 → ca[j]? = some (.int .i64 (cnts.getD j 0))):=hca
 have HPp:Hid (∀ k f,kindAt L k f = 4 → f < cntC (S.cp i) L k → 0 ≤ (S.vals i k f).p ∧ (S.vals i k f).p ≤ 20):=hp
 have HKl:Hid (∀ k,cntC (S.cp i) L k ≤ 4):=fun k => by
  unfold cntC
  split
  · exact hW.lay.kl k
  · omega
 obtain ⟨cp,hcp⟩:∃ cp,cp = S.cp i:=⟨_,rfl⟩
 rw [← hcp] at HPl HTo HVl HPlE HToE HVlE HPlA HToA HVlA k2 d2 HPp HKl ⊢
 generalize S.vals i = x at HVl HVlE HVlA HPp ⊢
 have HS1:Hid (W1.heap.size = w.heap.size + 3):=hs1
 clear hW hTO ht hca hp hls hB1 hbh hbc hbr hW1 HCp hcp hs1
 go_enter Tryz.func97,Tryz.ntmps97
 go_wp2_with fail
 rw [HW1.out]
 go_cut [7] (fun s wx => EntCut W1 cp L x s wx)
 case first =>
  go_region_held3 (fun W => W.cell? ⟨w.heap.size,0,none⟩ = some (.int .i64 ((i:Int) + 1)) ∧ W.cell? ⟨w.heap.size,1,none⟩ = some (.int .i64 lf) ∧ W.cell? ⟨b,1 + i * 3 + 2,none⟩ = some (.int .u64 cp) ∧ w.heap.size < W.heap.size ∧ b < W.heap.size) ((first | with_reducible exact ⟨p0,p1,p2,p3,p4⟩ | with_reducible exact ⟨t0,t1,t2,t3,t4⟩ | with_reducible exact ⟨v0,v1,v2,v3,v4⟩ | with_reducible exact ⟨d0,d1,d2,d3,d4⟩ | with_reducible exact hs_alloc _ ⟨p0,p1,p2,p3,p4⟩ | with_reducible exact hs_alloc _ ⟨t0,t1,t2,t3,t4⟩ | with_reducible exact hs_alloc _ ⟨v0,v1,v2,v3,v4⟩ | with_reducible exact hs_drew _ ⟨k0,k1,k2,k3,k4⟩ | with_reducible exact hs_set (by omega) (by omega) (hs_set (by omega) (by omega) (hs_set (by omega) (by omega) (hs_set (by omega) (by omega) (hs_set (by omega) (by omega) (hs_set (by omega) (by omega) (hs_set (by omega) (by omega) ⟨p0,p1,p2,p3,p4⟩)))))) | with_reducible exact hs_set (by omega) (by omega) (hs_set (by omega) (by omega) (hs_set (by omega) (by omega) (hs_set (by omega) (by omega) (hs_set (by omega) (by omega) (hs_set (by omega) (by omega) (hs_set (by omega) (by omega) ⟨t0,t1,t2,t3,t4⟩)))))) | with_reducible exact hs_set (by omega) (by omega) (hs_set (by omega) (by omega) (hs_set (by omega) (by omega) (hs_set (by omega) (by omega) (hs_set (by omega) (by omega) (hs_set (by omega) (by omega) (hs_set (by omega) (by omega) ⟨v0,v1,v2,v3,v4⟩)))))))) ((first | (go_at_call 59;(first | with_reducible refine (HPlA.out _ (Below.refl _ _).drew).mono ?_ | with_reducible refine (HPlA.out _ HBA.out).mono ?_ | with_reducible refine (HPlA.out _ HBB.out).mono ?_ | with_reducible refine (HPlA.out _ HBV.out).mono ?_ | with_reducible refine (HPlE.out _ _ HBD.out HED.out).mono ?_ | with_reducible refine (HPlE.out _ _ HBA.out HEA.out).mono ?_ | with_reducible refine (HPlE.out _ _ HBB.out HEB.out).mono ?_ | with_reducible refine (HPlE.out _ _ HBV.out HEV.out).mono ?_);rintro e wA ⟨rfl,⟨p0,p1,p2,p3,p4⟩,HBl,HBA,⟨⟨px0,px1,px2,px3,px4,px5,px6⟩,py0,py1,py2,py3,py4,py5,py6⟩,HEA⟩) | (go_at_call 74;(first | with_reducible refine (HToA.out _ (Below.refl _ _).drew).mono ?_ | with_reducible refine (HToA.out _ HBA.out).mono ?_ | with_reducible refine (HToA.out _ HBB.out).mono ?_ | with_reducible refine (HToA.out _ HBV.out).mono ?_ | with_reducible refine (HToE.out _ _ HBD.out HED.out).mono ?_ | with_reducible refine (HToE.out _ _ HBA.out HEA.out).mono ?_ | with_reducible refine (HToE.out _ _ HBB.out HEB.out).mono ?_ | with_reducible refine (HToE.out _ _ HBV.out HEV.out).mono ?_);rintro e wB ⟨rfl,⟨t0,t1,t2,t3,t4⟩,HBB,⟨⟨tx0,tx1,tx2,tx3,tx4,tx5,tx6⟩,ty0,ty1,ty2,ty3,ty4,ty5,ty6⟩,HEB⟩) | (go_at_call 147;(first | with_reducible refine (HVlA.out _ (Below.refl _ _).drew).mono ?_ | with_reducible refine (HVlA.out _ HBA.out).mono ?_ | with_reducible refine (HVlA.out _ HBB.out).mono ?_ | with_reducible refine (HVlA.out _ HBV.out).mono ?_ | with_reducible refine (HVlE.out _ _ HBD.out HED.out).mono ?_ | with_reducible refine (HVlE.out _ _ HBA.out HEA.out).mono ?_ | with_reducible refine (HVlE.out _ _ HBB.out HEB.out).mono ?_ | with_reducible refine (HVlE.out _ _ HBV.out HEV.out).mono ?_);rintro e wV ⟨a0,n0,c0,a1,n1,c1,a2,n2,c2,a3,n3,c3,a4,n4,c4,a5,n5,c5,rfl,⟨v0,v1,v2,v3,v4⟩,HV,HBV,⟨⟨vx0,vx1,vx2,vx3,vx4,vx5,vx6⟩,vy0,vy1,vy2,vy3,vy4,vy5,vy6⟩,HEV⟩) | (go_at_call 59;(first | with_reducible refine (HPl.out _ (Below.refl _ _).drew).mono ?_ | with_reducible refine (HPl.out _ HBA.out).mono ?_ | with_reducible refine (HPl.out _ HBB.out).mono ?_ | with_reducible refine (HPl.out _ HBV.out).mono ?_);rintro e wA ⟨rfl,⟨p0,p1,p2,p3,p4⟩,HBl,HBA⟩) | (go_at_call 74;(first | with_reducible refine (HTo.out _ (Below.refl _ _).drew).mono ?_ | with_reducible refine (HTo.out _ HBA.out).mono ?_ | with_reducible refine (HTo.out _ HBB.out).mono ?_ | with_reducible refine (HTo.out _ HBV.out).mono ?_);rintro e wB ⟨rfl,⟨t0,t1,t2,t3,t4⟩,HBB⟩) | (go_at_call 147;(first | with_reducible refine (HVl.out _ (Below.refl _ _).drew).mono ?_ | with_reducible refine (HVl.out _ HBA.out).mono ?_ | with_reducible refine (HVl.out _ HBB.out).mono ?_ | with_reducible refine (HVl.out _ HBV.out).mono ?_);rintro e wV ⟨a0,n0,c0,a1,n1,c1,a2,n2,c2,a3,n3,c3,a4,n4,c4,a5,n5,c5,rfl,⟨v0,v1,v2,v3,v4⟩,HV,HBV⟩)))
  all_goals (try go_wp2_with fail)
  all_goals go_meet
  all_goals
   obtain ⟨sl,lv,hG,s0,s1,s2,s3,s4,s5⟩:=HV.out
   rw [← s0,← s1,← s2,← s3,← s4,← s5]
   first
    | with_reducible exact ent_cut hG (Below.refl _ _) HBV.out rfl
    | with_reducible exact ent_cut7 hG (Below.refl _ _) HBV.out HEV.out HBB.out.size
    | with_reducible exact ent_cut7 hG (Below.refl _ _) HBV.out HEV.out HBA.out.size
    | with_reducible exact ent_cut7 hG (Below.refl _ _) HBV.out HEV.out (Nat.le_refl _)
 case rest =>
  obtain ⟨eb,sl,lv,rfl,hlo,hblk,hG,hb2⟩:=hcut
  obtain ⟨W2,rfl⟩:∃ W2:World,W2 = wc:=⟨_,rfl⟩
  have HEV0:Hid (EV W2 W2 W1.heap.size L x cnts (cntC cp L) sl lv 0 0):=EV.start cnts hG
  have hf:∀ k,k < 6 → ∃ a n c,sl k = .slice a n c:=fun k hk => by obtain ⟨a,c,z⟩:=own_form (hG.rows k hk);exact ⟨a,_,c,z⟩
  obtain ⟨a0,m0,c0,s0⟩:=hf 0 (by omega)
  obtain ⟨a1,m1,c1,s1⟩:=hf 1 (by omega)
  obtain ⟨a2,m2,c2,s2⟩:=hf 2 (by omega)
  obtain ⟨a3,m3,c3,s3⟩:=hf 3 (by omega)
  obtain ⟨a4,m4,c4,s4⟩:=hf 4 (by omega)
  obtain ⟨a5,m5,c5,s5⟩:=hf 5 (by omega)
  have HBk:Hid (W2.heap[eb]? = some (.cells #[.int .u64 cp,sl 0,sl 1,sl 2,sl 3,sl 4,sl 5] 164 (0,0))):=hblk
  have HB2:Hid (Below W1.heap.size W1 W2):=hb2
  have HKeep:Hid (∀ wr k f,EV W2 wr W1.heap.size L x cnts (cntC cp L) sl lv k f → wr.heap[eb]? = W2.heap[eb]? ∧ ∀ j,j < W1.heap.size → wr.heap[j]? = W1.heap[j]?):=fun wr k f h => by
   refine ⟨h.turns.block eb (Array.getElem?_eq_some_iff.1 hblk).1 ?_,fun j hj => ?_⟩
   · rintro ⟨k',hk',q⟩
     obtain ⟨c1,q1⟩:=row56 (hG.rows k' hk') q
     rw [hblk] at q1;simp at q1
   · have:=hb2.size
     refine (h.turns.block j (by omega) ?_).trans (hb2.block j hj)
     rintro ⟨k',hk',q⟩
     have:=((hG.rows k' hk').lt j q).1
     omega
  have e1:W2.cell? ⟨eb,1,none⟩ = some (.slice a0 m0 c0):=by rw [cell_row hblk,← s0];rfl
  have e2:W2.cell? ⟨eb,2,none⟩ = some (.slice a1 m1 c1):=by rw [cell_row hblk,← s1];rfl
  have e3:W2.cell? ⟨eb,3,none⟩ = some (.slice a2 m2 c2):=by rw [cell_row hblk,← s2];rfl
  have e4:W2.cell? ⟨eb,4,none⟩ = some (.slice a3 m3 c3):=by rw [cell_row hblk,← s3];rfl
  have e5:W2.cell? ⟨eb,5,none⟩ = some (.slice a4 m4 c4):=by rw [cell_row hblk,← s4];rfl
  have e6:W2.cell? ⟨eb,6,none⟩ = some (.slice a5 m5 c5):=by rw [cell_row hblk,← s5];rfl
  have HIx:Hid (∀ k:Nat,k < 6 → ∀ w,(Instr.index 162 (.agg #[.slice a0 m0 c0,.slice a1 m1 c1,.slice a2 m2 c2,.slice a3 m3 c3,.slice a4 m4 c4,.slice a5 m5 c5]) (.int .i64 k)).run Tryz.prog w = .ok (sl k) w):=fun k hk w => by
   refine index162 _ k hk _ ?_ w
   rw [← s0,← s1,← s2,← s3,← s4,← s5]
   exact colArr_get sl k hk
  clear hblk hG hb2 hf s0 s1 s2 s3 s4 s5 k0 k1 k2 k3 k4 d0 d1 d2 d3 d4
  have hsz:=HB2.out.size
  go_wp2_with fail
  go_loopw [26] (fun t wr => ∃ k:Nat,k ≤ 6 ∧ t = .int .i64 k ∧ Hid (EV W2 wr W1.heap.size L x cnts (cntC cp L) sl lv k 0)) (fun t _ => 6 - (intOf t).toNat)
  case atStart => exact ⟨0,by omega,rfl,HEV0⟩
  case round =>
   obtain ⟨k,hk,rfl,HI⟩:=hrel
   by_cases hlt2:k < 6
   · have hid:=HIx.out k hlt2
     obtain ⟨va,vc,hsk⟩:=own_form (HI.out.rows k hlt2)
     rw [hsk] at hid
     obtain ⟨m,hm⟩:∃ m,m = cntC cp L k:=⟨_,rfl⟩
     rw [← hm] at hid
     have HM:Hid (m = cntC cp L k):=hm
     have hm4:m ≤ 4:=by rw [hm];exact HKl.out k
     have HSk:Hid (sl k = .slice va m vc):=by rw [hm];exact hsk
     have hdk:decide ((k:Int) < 6) = true:=decide_eq_true (by omega)
     clear hm hsk
     go_wp2
     go_loopw [31] (fun t wk => ∃ f:Nat,f ≤ m ∧ t = .int .i64 f ∧ Hid (EV W2 wk W1.heap.size L x cnts (cntC cp L) sl lv k f)) (fun t _ => m - (intOf t).toNat)
     case atStart => exact ⟨0,by omega,rfl,HI⟩
     case round =>
      obtain ⟨f,hf,rfl,HF2⟩:=hrel
      by_cases hfm:f < m
      · have hfl:f < cntC cp L k:=by rw [← HM.out];exact hfm
        have hrow:=HF2.out.rows k hlt2
        obtain ⟨gv,cap,hs0,hgB,hgl,hcap⟩:∃ gv cap,sl k = .slice (some ⟨gv,0,none⟩) (cntC cp L k) cap ∧ W1.heap.size ≤ gv ∧ gv < wr.heap.size ∧ cntC cp L k ≤ cap:=by
         rcases hrow.2 with ⟨_,q⟩ | ⟨gv,cap,cur,q1,q2,q3,q4,_⟩
         · omega
         · exact ⟨gv,cap,q1,q2,(Array.getElem?_eq_some_iff.1 q3).1,q4⟩
        have hs1:=HSk.out
        rw [hs0] at hs1 hrow
        simp only [Value.slice.injEq] at hs1
        obtain ⟨rfl,_,rfl⟩:=hs1
        have hcell:∀ o,o < 6 → wr.cell? ⟨gv,f * 6 + o,none⟩ = (gCells (kindAt L k f) (x k f) (lv k f))[o]?:=fun o ho => (hrow.cellAt (f * 6 + o) (by omega)).trans (rowH_get L x cnts lv k f _ o hfl ho)
        obtain ⟨la,lb,hlv⟩:=own_form (HF2.out.lists k hlt2 f hfl)
        have y0:wr.cell? ⟨gv,f * 6,none⟩ = some (.int .i64 (kindAt L k f)):=hcell 0 (by omega)
        have y1:wr.cell? ⟨gv,f * 6 + 1,none⟩ = some (.int .i64 (gN (kindAt L k f) (x k f))):=hcell 1 (by omega)
        have y2:wr.cell? ⟨gv,f * 6 + 2,none⟩ = some (.string (mk (gS (kindAt L k f) (x k f)))):=hcell 2 (by omega)
        have y3:wr.cell? ⟨gv,f * 6 + 3,none⟩ = some (.int .i64 (gP (kindAt L k f) (x k f))):=hcell 3 (by omega)
        have y4:wr.cell? ⟨gv,f * 6 + 4,none⟩ = some (.int .i64 (gQ (kindAt L k f) (x k f))):=hcell 4 (by omega)
        have y5:wr.cell? ⟨gv,f * 6 + 5,none⟩ = some (lv k f):=hcell 5 (by omega)
        rw [hlv] at y5
        have z0:=hrow.frozenAt (f * 6)
        have z1:=hrow.frozenAt (f * 6 + 1)
        have z2:=hrow.frozenAt (f * 6 + 2)
        have z3:=hrow.frozenAt (f * 6 + 3)
        have z4:=hrow.frozenAt (f * 6 + 4)
        have z5:=hrow.frozenAt (f * 6 + 5)
        have hcb:=(HKeep.out wr k f HF2.out).2 (w.heap.size + 1) (by rw [HS1.out];omega)
        rw [HBc.out] at hcb
        have hcl:w.heap.size + 1 < wr.heap.size:=(Array.getElem?_eq_some_iff.1 hcb).1
        have hgn:gv ≠ wr.heap.size:=by omega
        have hcn:w.heap.size + 1 ≠ wr.heap.size:=by omega
        generalize (gL (kindAt L k f) (x k f)).length = ln at hlv y5
        by_cases h4:kindAt L k f = 4
        · obtain ⟨p0,p20⟩:=HPp.out k f h4 hfl
          obtain ⟨pn,hpn⟩:∃ pn:Nat,(x k f).p = (pn:Int):=⟨(x k f).p.toNat,by omega⟩
          have hpt:(x k f).p.toNat = pn:=by omega
          have hpl:pn < 21:=by omega
          have cc:wr.cell? ⟨w.heap.size + 1,pn,none⟩ = some (.int .i64 (cnts.getD pn 0)):=by rw [cell_row hcb];exact HCa.out pn hpl
          have HPut:Hid (EV W2 (set6 wr gv (f * 6) (.int .i64 4) (.int .i64 (cnts.getD pn 0)) (.string ⟨#[]⟩) (.int .i64 0) (.int .i64 0) (.slice none 0 0)) W1.heap.size L x cnts (cntC cp L) sl lv k (f + 1)):=by
           have:=HF2.out.put hlt2 hfl h4 hs0
           rw [hpt] at this
           exact this
          have hgp:gP (kindAt L k f) (x k f) = (pn:Int):=by unfold gP;rw [if_pos h4];exact hpn
          rw [hgp] at y3
          rw [h4] at y0
          rw [show ((4:Nat):Int) = 4 from rfl] at y0
          clear hcell hrow hcb hlv hs0 hgp hpn hpt h4
          generalize gN (kindAt L k f) (x k f) = en at y1
          generalize gS (kindAt L k f) (x k f) = es at y2
          generalize gQ (kindAt L k f) (x k f) = eq at y4
          generalize cnts.getD pn 0 = cn at cc HPut
          have hp21:(pn:Int) < 21:=by omega
          go_wp2_with fail
          have hPut:=HPut.out
          unfold set6 at hPut
          exact ⟨⟨f + 1,by omega,by first | go_num | simp,hPut.below ((Below.refl _ _).alloc (Nat.le_refl _) _)⟩,by simp [intOf];omega⟩
        · have hk4:¬ ((kindAt L k f:Int) = 4):=by omega
          have HSkp:Hid (EV W2 wr W1.heap.size L x cnts (cntC cp L) sl lv k (f + 1)):=HF2.out.skip h4
          clear hcell hrow hcb hlv hs0 h4
          generalize (kindAt L k f:Int) = kd at y0 hk4
          generalize gN (kindAt L k f) (x k f) = en at y1
          generalize gS (kindAt L k f) (x k f) = es at y2
          generalize gP (kindAt L k f) (x k f) = ep at y3
          generalize gQ (kindAt L k f) (x k f) = eq at y4
          go_wp2_with fail
          exact ⟨⟨f + 1,by omega,by go_num,HSkp.out.below ((Below.refl _ _).alloc (Nat.le_refl _) _)⟩,by simp [intOf];omega⟩
      · obtain rfl:f = m:=by omega
        have HI2:Hid (EV W2 wr W1.heap.size L x cnts (cntC cp L) sl lv (k + 1) 0):=EV.next (by rw [← HM.out];exact HF2.out)
        go_wp2_with fail
        go_roundw
        case rel => exact ⟨k + 1,by omega,by go_num,HI2⟩
        case measure => simp [intOf];omega
   · obtain rfl:k = 6:=by omega
     have HEb:Hid (wr.heap[eb]? = some (.cells #[.int .u64 cp,sl 0,sl 1,sl 2,sl 3,sl 4,sl 5] 164 (0,0))):=(HKeep.out wr 6 0 HI.out).1.trans HBk.out
     have HRs:Hid (wr.heap[w.heap.size + 1 + 1]? = some (.cells #[.int .u64 0,.slice none 0 0,.slice none 0 0,.slice none 0 0,.slice none 0 0,.slice none 0 0,.slice none 0 0] 164 (0,0))):=((HKeep.out wr 6 0 HI.out).2 (w.heap.size + 2) (by rw [HS1.out];omega)).trans HBr.out
     have HOne:Hid ((#[.int .u64 cp,sl 0,sl 1,sl 2,sl 3,sl 4,sl 5]:Array Value).all (·.oneCell') = true):=by
      obtain ⟨_,_,z0⟩:=own_form (HI.out.rows 0 (by omega))
      obtain ⟨_,_,z1⟩:=own_form (HI.out.rows 1 (by omega))
      obtain ⟨_,_,z2⟩:=own_form (HI.out.rows 2 (by omega))
      obtain ⟨_,_,z3⟩:=own_form (HI.out.rows 3 (by omega))
      obtain ⟨_,_,z4⟩:=own_form (HI.out.rows 4 (by omega))
      obtain ⟨_,_,z5⟩:=own_form (HI.out.rows 5 (by omega))
      show _ = _
      simp [z0,z1,z2,z3,z4,z5,Value.oneCell']
     go_wp2_with (first
      | refine wpList_load_row rfl 164 _ rfl _ rfl 164 _ _ _ HEb.out Tryz.underlying164 rfl (by rw [Tryz.size164];rfl) ?_
      | refine wpList_store_row rfl 164 _ _ rfl _ _ rfl rfl 164 _ HRs.out (by rw [Tryz.size164];rfl) rfl HOne.out ?_)
     refine bodyPost_ret_by (v:=.agg #[.int .u64 cp,sl 0,sl 1,sl 2,sl 3,sl 4,sl 5]) ?_ rfl ⟨sl,fun k => (List.range (cntC cp L k)).map fun f => hLv (kindAt L k f) (lv k f),rfl,?_,?_⟩
     · exact results_cell_row (p:=6) (ty:=164) rfl _ _ (w.heap.size + 1 + 1) 164 _ (0,0) _ rfl (setRow_heap _ _ _ _ _ _ HRs.out) Tryz.underlying164 rfl (by rw [Tryz.size164];rfl)
     · have hO:=HI.out.own
       have hne:∀ j,W1.heap.size ≤ j → (wr.setRow (w.heap.size + 1 + 1) #[.int .u64 cp,sl 0,sl 1,sl 2,sl 3,sl 4,sl 5]).heap[j]? = wr.heap[j]?:=fun j hj => setRow_other _ _ _ _ (by rw [HS1.out] at hj;omega)
       intro k hk
       obtain ⟨q1,q2,q3⟩:=hO k hk
       have hB:w.heap.size ≤ W1.heap.size:=by rw [HS1.out];omega
       exact ⟨q1,own_base (own_turn q2 fun j hj _ => hne j (q2.lt j hj).1) hB,fun i hi hi' => own_base (own_turn (q3 i hi hi') fun j hj _ => hne j ((q3 i hi hi').lt j hj).1) hB⟩
     · have hKp:=(HKeep.out wr 6 0 HI.out).2
       have hz:wr.heap.size ≥ W1.heap.size:=Nat.le_trans HB2.out.size HI.out.turns.size
       have hz1:=HS1.out
       have t:=HI.out.turns
       refine ⟨t.os.trans (HB2.out.os.trans HB1.out.os),t.tape.trans (HB2.out.tape.trans HB1.out.tape),t.output.trans (HB2.out.output.trans HB1.out.output),by simp [World.setRow];omega,fun j hj => ?_⟩
       rw [setRow_other _ _ _ _ (by omega),hKp j (by omega)]
       exact HB1.out.block j hj
end Go.Proofs.YthkbeaffkcfgiabGreatDoor
