import Derived.Test.YthkbeaffkcfgiabGreatDoorR16
import Derived.Test.YthkbeaffkcfgiabGreatDoorR08
import Derived.Test.YthkbeaffkcfgiabGreatDoorR05
set_option linter.unusedSimpArgs false
set_option linter.unusedVariables false
namespace Go.Proofs.YthkbeaffkcfgiabGreatDoor
open Go.RowKit
set_option maxHeartbeats 800000 in
theorem cloneT_any (s:ByteArray) (w:World) (hl:s.size ≤ 1000):Calls Tryz.prog 277 #[.string s] w fun e w' => e = .returned (.string s) ∧ Below w.heap.size w w':=by
 have HC:Hid (Calls Tryz.prog 294 #[.string s] w fun e w' => e = .returned (.string s) ∧ Below w.heap.size w w'):=Tryz.stringslite_Clone s w (by omega)
 go_enter Tryz.func277,Tryz.ntmps277
 go_wp2_with (go_at_call 294;refine HC.out.mono ?_;rintro e w2 ⟨rfl,hb2⟩)
 go_ret
 exact ⟨rfl,hb2⟩
set_option maxHeartbeats 1600000 in
theorem set_text (cb g r n cap:Nat) (k x:Int) (s:ByteArray) (p l:Int) (vl u:Value) (w:World) (c0:w.cell? ⟨cb,0,none⟩ = some (.slice (some ⟨g,0,none⟩) n cap)) (hr:r < n) (hn:n ≤ 100) (hs:s.size ≤ 1000) (c1:w.cell? ⟨g,r,none⟩ = some u) (f1:w.frozen? ⟨g,r,none⟩ = false) :
 Calls Tryz.prog 385 #[.pointer (some ⟨cb,0,none⟩),.int .i64 r,.agg #[.int .i64 k,.int .i64 x,.string s,.int .i64 p,.int .i64 l,vl]] w fun e w' => e = .returned (.tuple #[]) ∧ ∃ W,Below w.heap.size w W ∧ w' = W.setCell ⟨g,r,none⟩ (.string s):=by
 have hb:cb < w.heap.size:=World.block_lt_of_cell? _ _ c0
 have hg:g < w.heap.size:=World.block_lt_of_cell? _ _ c1
 have hb1:cb ≠ w.heap.size:=by omega
 have hg1:g ≠ w.heap.size:=by omega
 have mixed:Tryz.prog.follows Departure.mixedOrders = true:=by kernel_rfl
 obtain ⟨W1,hW1⟩:∃ W1,W1 = (w.alloc (.cells #[.int .i64 k,.int .i64 x,.string s,.int .i64 p,.int .i64 l,vl] 56)).drew:=⟨_,rfl⟩
 have HI:Hid (Calls Tryz.prog 277 #[.string s] W1 fun e w' => e = .returned (.string s) ∧ w'.cell? ⟨cb,0,none⟩ = some (.slice (some ⟨g,0,none⟩) n cap) ∧ w'.cell? ⟨g,r,none⟩ = some u ∧ w'.frozen? ⟨g,r,none⟩ = false ∧ w'.cell? ⟨w.heap.size,2,none⟩ = some (.string s) ∧ Hid (Below w.heap.size w w')):=by
  have hB:Below w.heap.size w W1:=by rw [hW1];exact ((Below.refl _ _).alloc (Nat.le_refl _) _).drew
  have hs1:W1.heap.size = w.heap.size + 1:=by rw [hW1];simp
  refine (cloneT_any s W1 hs).mono ?_
  rintro e w' ⟨rfl,h⟩
  have hB2:Below w.heap.size w w':=hB.trans (h.mono (by omega))
  exact ⟨rfl,(hB2.cell (p:=⟨cb,0,none⟩) hb).trans c0,(hB2.cell (p:=⟨g,r,none⟩) hg).trans c1,(hB2.frozen (p:=⟨g,r,none⟩) hg).trans f1,(h.cell (p:=⟨w.heap.size,2,none⟩) (by simp;omega)).trans (by rw [hW1];simp),hB2⟩
 rw [hW1] at HI
 go_enter Tryz.func385,Tryz.ntmps385
 go_wp2_with fail
 go_region_with (go_at_call 277;refine HI.out.mono ?_;rintro e w2 ⟨rfl,d0,d1,d2,d3,HB⟩)
 all_goals go_wp2_with fail
 all_goals go_end0
 all_goals exact ⟨rfl,_,HB.out,rfl⟩
set_option maxHeartbeats 1600000 in
theorem set_list (cb g r n cap:Nat) (k x:Int) (s:ByteArray) (p l:Int) (vl u:Value) (ls:List Int) (w:World) (c0:w.cell? ⟨cb,0,none⟩ = some (.slice (some ⟨g,0,none⟩) n cap)) (hr:r < n) (hn:n ≤ 100) (hs:IntsAt w vl ls) (hl:ls.length ≤ 100) (c1:w.cell? ⟨g,r,none⟩ = some u) (f1:w.frozen? ⟨g,r,none⟩ = false) :
 Calls Tryz.prog 401 #[.pointer (some ⟨cb,0,none⟩),.int .i64 r,.agg #[.int .i64 k,.int .i64 x,.string s,.int .i64 p,.int .i64 l,vl]] w fun e w' => e = .returned (.tuple #[]) ∧ ∃ W sa sc,Below w.heap.size w W ∧ W.ownsRow (w.heap.size + 1) 3 1 (.slice sa ls.length sc) ls.length (ls.map (.int .i64)) ∧ w' = W.setCell ⟨g,r,none⟩ (.slice sa ls.length sc):=by
 have hb:cb < w.heap.size:=World.block_lt_of_cell? _ _ c0
 have hg:g < w.heap.size:=World.block_lt_of_cell? _ _ c1
 have hb1:cb ≠ w.heap.size:=by omega
 have hg1:g ≠ w.heap.size:=by omega
 have mixed:Tryz.prog.follows Departure.mixedOrders = true:=by kernel_rfl
 obtain ⟨W1,hW1⟩:∃ W1,W1 = (w.alloc (.cells #[.int .i64 k,.int .i64 x,.string s,.int .i64 p,.int .i64 l,vl] 56)).drew:=⟨_,rfl⟩
 have HI:Hid (Calls Tryz.prog 403 #[vl] W1 fun e w' => ∃ sa sc,e = .returned (.slice sa ls.length sc) ∧ w'.cell? ⟨cb,0,none⟩ = some (.slice (some ⟨g,0,none⟩) n cap) ∧ w'.cell? ⟨g,r,none⟩ = some u ∧ w'.frozen? ⟨g,r,none⟩ = false ∧ w'.cell? ⟨w.heap.size,5,none⟩ = some vl ∧ Hid (Below w.heap.size w w' ∧ w'.ownsRow (w.heap.size + 1) 3 1 (.slice sa ls.length sc) ls.length (ls.map (.int .i64)))):=by
  have hB:Below w.heap.size w W1:=by rw [hW1];exact ((Below.refl _ _).alloc (Nat.le_refl _) _).drew
  have hs1:W1.heap.size = w.heap.size + 1:=by rw [hW1];simp
  refine (fresh_any vl ls W1 (hs.below hB) (by omega)).mono ?_
  rintro e w' ⟨sa,sc,rfl,ho,h⟩
  rw [hs1] at ho
  have hB2:Below w.heap.size w w':=hB.trans (h.mono (by omega))
  exact ⟨sa,sc,rfl,(hB2.cell (p:=⟨cb,0,none⟩) hb).trans c0,(hB2.cell (p:=⟨g,r,none⟩) hg).trans c1,(hB2.frozen (p:=⟨g,r,none⟩) hg).trans f1,(h.cell (p:=⟨w.heap.size,5,none⟩) (by simp;omega)).trans (by rw [hW1];simp),hB2,ho⟩
 rw [hW1] at HI
 clear hs hl
 have HQ:Hid (∀ W sa sc,Below w.heap.size w W → W.ownsRow (w.heap.size + 1) 3 1 (.slice sa ls.length sc) ls.length (ls.map (.int .i64)) → ∃ W2 sa2 sc2,Below w.heap.size w W2 ∧ W2.ownsRow (w.heap.size + 1) 3 1 (.slice sa2 ls.length sc2) ls.length (ls.map (.int .i64)) ∧ W.setCell ⟨g,r,none⟩ (.slice sa ls.length sc) = W2.setCell ⟨g,r,none⟩ (.slice sa2 ls.length sc2)):=fun W sa sc h1 h2 => ⟨W,sa,sc,h1,h2,rfl⟩
 generalize ls.length = m at HI HQ ⊢
 go_enter Tryz.func401,Tryz.ntmps401
 go_wp2_with fail
 go_region_with (go_at_call 403;refine HI.out.mono ?_;rintro e w2 ⟨sa,sc,rfl,d0,d1,d2,d3,HB⟩)
 all_goals go_wp2_with fail
 all_goals go_end0
 all_goals exact ⟨rfl,HQ.out _ _ _ HB.out.1 HB.out.2⟩
theorem Tryz.info135:(Tryz.prog.info? 135).map (fun i => (i.zero,i.size,i.bytes)) = some (some (.agg #[.string ⟨#[]⟩,.int .i64 0]),2,24):=by kernel_rfl
theorem own_succ {W:World} {base:Nat} {e:TypeId} {size:Nat} {v:Value} {k:Nat} {xs:List Value} (h:W.ownsRow base e size v (k + 1) xs):∃ g cap,v = .slice (some ⟨g,0,none⟩) (k + 1) cap:=by
 rcases h.2 with ⟨_,h⟩ | ⟨g,cap,cur,h,_⟩
 · omega
 · exact ⟨g,cap,h⟩
theorem row_step {C:Nat} {e:TypeId} {wa w5 w6:World} {sa:Option Addr} {sn sc k:Nat} {v' c0:Value} {xs ys:List Value} {o:Obj} (hown5:w5.ownsRow (C + 1) e 2 (.slice sa sn sc) k xs) (hown6:w6.ownsRow (C + 1) e 2 v' (k + 1) ys)
 (hg:(w5.alloc o).grownBy w6 (Value.slice sa sn sc).ownBlock) (g0:w5.cell? ⟨C,0,none⟩ = some c0) (g1:w5.cell? ⟨C,1,none⟩ = some (.slice sa sn sc)) (k0:w5.frozen? ⟨C,0,none⟩ = false) (k1:w5.frozen? ⟨C,1,none⟩ = false)
 (hs:C < w5.heap.size) (hB:Below C wa w5) :
 ∃ g c,v' = .slice (some ⟨g,0,none⟩) (k + 1) c ∧ w6.cell? ⟨C,0,none⟩ = some c0 ∧ w6.cell? ⟨C,1,none⟩ = some (.slice sa sn sc) ∧ w6.frozen? ⟨C,0,none⟩ = false ∧ w6.frozen? ⟨C,1,none⟩ = false ∧ Below C wa w6 ∧ C < w6.heap.size:=by
 have hrow:∀ j,(Value.slice sa sn sc).ownBlock = some j → C + 1 ≤ j:=fun j hj => (hown5.lt j hj).1
 have hblk:w6.heap[C]? = w5.heap[C]?:=by
  rw [hg.block C (by simp;omega) (fun h => by have:=hrow C h.symm;omega),Below.heap_alloc _ _ _ hs]
 obtain ⟨g,c,hv⟩:=own_succ hown6
 refine ⟨g,c,hv,?_,?_,?_,?_,?_,?_⟩
 · rw [World.cell?_of_block (a:=⟨C,0,none⟩) hblk];exact g0
 · rw [World.cell?_of_block (a:=⟨C,1,none⟩) hblk];exact g1
 · rw [World.frozen?_of_block (a:=⟨C,0,none⟩) hblk];exact k0
 · rw [World.frozen?_of_block (a:=⟨C,1,none⟩) hblk];exact k1
 · exact Below.grown (hB.alloc (by omega) o) hg (by simp;omega) (fun j hj => by have:=hrow j hj;omega)
 · have:=hg.size;simp at this;omega
def bz (f:List UInt8 × Nat):ByteArray × Int:=(mk f.1,(f.2:Int))
theorem mem_bz (nm:List UInt8) (zl:List (List UInt8 × Nat)):mk nm ∈ (zl.map bz).map Prod.fst ↔ nm ∈ zl.map Prod.fst:=by
 simp only [List.map_map,List.mem_map,Function.comp_def,bz]
 constructor
 · rintro ⟨f,hf,e⟩;exact ⟨f,hf,mk_inj e⟩
 · rintro ⟨f,hf,e⟩;exact ⟨f,hf,by rw [e]⟩
theorem cut_small (b:UInt8):∀ (s:List UInt8) (p:List UInt8),p ∈ cutL b s → p.length ≤ s.length
 | [],p,h => by simp [cutL] at h;simp [h]
 | c :: s,p,h => by
  unfold cutL at h
  split at h
  · rcases List.mem_cons.1 h with rfl | h
    · simp
    · have:=cut_small b s p h;simp;omega
  · cases hc:cutL b s with
    | nil => exact absurd hc (cutL_ne b s)
    | cons q qs =>
     rw [hc] at h
     rcases List.mem_cons.1 h with rfl | h
     · have:=cut_small b s q (by rw [hc];simp);simp;omega
     · have:=cut_small b s p (by rw [hc];simp [h]);simp;omega
theorem Tryz.info138:(Tryz.prog.info? 138).map (fun i => (i.zero,i.size,i.bytes)) = some (some (.agg #[.string ⟨#[]⟩,.slice none 0 0]),2,40):=by kernel_rfl
theorem suffix_cases (text:List UInt8):(Lib.hasSuffix text [10] = false ∧ schemaL text = none) ∨ (Lib.hasSuffix text [10] = true ∧ ∃ body,text = body ++ [10] ∧ Lib.trimSuffix text [10] = body):=by
 by_cases h:∃ body,text = body ++ [10]
 · obtain ⟨body,rfl⟩:=h
   right
   have hs:Lib.hasSuffix (body ++ [10]) [10] = true:=by
    unfold Lib.hasSuffix;rw [List.isSuffixOf_iff_suffix];exact ⟨body,rfl⟩
   refine ⟨hs,body,rfl,?_⟩
   unfold Lib.trimSuffix
   rw [if_pos hs]
   simp
 · left
   refine ⟨?_,schemaL_noEnd text fun body e => h ⟨body,e⟩⟩
   cases hs:Lib.hasSuffix text [10] with
   | false => rfl
   | true =>
    unfold Lib.hasSuffix at hs
    rw [List.isSuffixOf_iff_suffix] at hs
    obtain ⟨body,hb⟩:=hs
    exact absurd ⟨body,hb.symm⟩ h
theorem mem_names {cs:List (ByteArray × (Option Addr × Nat × Nat))} {cl:List (List UInt8 × List (List UInt8 × Nat))} (h:cs.map Prod.fst = cl.map fun c => mk c.1) (nm:List UInt8):mk nm ∈ cs.map Prod.fst ↔ nm ∈ cl.map Prod.fst:=by
 rw [h]
 simp only [List.mem_map]
 constructor
 · rintro ⟨c,hc,e⟩;exact ⟨c,hc,mk_inj e⟩
 · rintro ⟨c,hc,e⟩;exact ⟨c,hc,by rw [e]⟩
end Go.Proofs.YthkbeaffkcfgiabGreatDoor
