import Derived.Test.YthkbeaffkcfgiabGreatDoorR19
set_option linter.unusedSimpArgs false
set_option linter.unusedVariables false
namespace Go.Proofs.YthkbeaffkcfgiabGreatDoor
open Go.RowKit
def shutAt (bg:Nat → Nat) (tk:Nat → Bool) (j:Nat):Prop:=tk j = true ∨ 3 ≤ bg j
theorem free_shut (b o:Nat) (n:Nat) (t:Bool) (w:World) (h0:w.cell? ⟨b,o,none⟩ = some (.int .i64 n)) (h1:w.cell? ⟨b,o + 1,none⟩ = some (.bool t)) (hs:t = true ∨ 3 ≤ n) :
 Calls Tryz.prog 119 #[.pointer (some ⟨b,o,none⟩)] w fun e w' => e = .returned (.bool false) ∧ w' = w:=by
 cases t with
 | true => exact free_taken b o w h1
 | false =>
  have:=free_empty b o n w h0 h1
  have hd:decide ((n:Int) < 3) = false:=by
   rcases hs with hs | hs
   · cases hs
   · simp;omega
  rw [hd] at this
  exact this
theorem free_open (b o:Nat) (n:Nat) (w:World) (h0:w.cell? ⟨b,o,none⟩ = some (.int .i64 n)) (h1:w.cell? ⟨b,o + 1,none⟩ = some (.bool false)) (hs:n < 3) :
 Calls Tryz.prog 119 #[.pointer (some ⟨b,o,none⟩)] w fun e w' => e = .returned (.bool true) ∧ w' = w:=by
 have:=free_empty b o n w h0 h1
 have hd:decide ((n:Int) < 3) = true:=by simp;omega
 rw [hd] at this
 exact this
theorem set3_block {w:World} {b o1 o2 o3:Nat} {u1 u2 u3:Value} {arr:Array Value} {t:TypeId} {fz:Nat × Nat} (hb:w.heap[b]? = some (.cells arr t fz)):∃ arr',(((w.setCell ⟨b,o1,none⟩ u1).setCell ⟨b,o2,none⟩ u2).setCell ⟨b,o3,none⟩ u3).heap[b]? = some (.cells arr' t fz) ∧ arr'.size = arr.size :=
 ⟨_,setCell_block _ (setCell_block _ (setCell_block _ hb)),by simp⟩
end Go.Proofs.YthkbeaffkcfgiabGreatDoor
namespace Go.Proofs.YthkbeaffkcfgiabGreatDoor
open Go.RowKit Go.Maps
def ptrTo (o:Option Nat):Value:=.pointer (o.map fun n => ⟨n,0,none⟩)
theorem ptrElem_form (v:Value) (y:DataW Unit × List MemPlace) (h:ptrElem v = some y):∃ c,v = ptrTo c:=by
 unfold ptrElem at h
 split at h
 · exact ⟨none,rfl⟩
 · exact ⟨some _,rfl⟩
 · cases h
theorem key_form (key:Value) (kl:Lit) (h:keyOf Tryz.prog 105 key = some kl):∃ x,key = Value.int .u64 x:=by
 obtain ⟨x,h1,_⟩:=Maps.keyOf_int_inv Tryz.underlying105 h
 exact ⟨x,h1⟩
end Go.Proofs.YthkbeaffkcfgiabGreatDoor
