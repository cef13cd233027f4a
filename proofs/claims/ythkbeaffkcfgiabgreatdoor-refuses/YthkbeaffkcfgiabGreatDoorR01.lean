import Derived.WalkKit
import Derived.WalkSpells
import Derived.WalkLawsBesides
import Derived.Deep.QuietTactic
import Derived.BigQuiet
import Derived.Deep.RegionWith
import Derived.Deep.RegionHeld3
import Derived.Test.YthkbeaffkcfgiabGreatDoorProg
set_option linter.unusedSimpArgs false
set_option linter.unusedVariables false
namespace Go.Proofs.YthkbeaffkcfgiabGreatDoor
open Go.RowKit
set_option maxHeartbeats 400000 in
theorem free_taken (b o:Nat) (w:World) (h1:w.cell? ⟨b,o + 1,none⟩ = some (.bool true)) :
 Calls Tryz.prog 119 #[.pointer (some ⟨b,o,none⟩)] w fun e w' => e = .returned (.bool false) ∧ w' = w:=by
 go_enter Tryz.func119,Tryz.ntmps119
 go_wp2
 go_ret
 exact ⟨rfl,rfl⟩
set_option maxHeartbeats 400000 in
theorem free_empty (b o:Nat) (n:Int) (w:World) (h0:w.cell? ⟨b,o,none⟩ = some (.int .i64 n)) (h1:w.cell? ⟨b,o + 1,none⟩ = some (.bool false)) :
 Calls Tryz.prog 119 #[.pointer (some ⟨b,o,none⟩)] w fun e w' => e = .returned (.bool (decide (n < 3))) ∧ w' = w:=by
 go_enter Tryz.func119,Tryz.ntmps119
 go_wp2
 go_ret
 exact ⟨rfl,rfl⟩
set_option maxHeartbeats 400000 in
theorem begin_any (b o:Nat) (n:Int) (t:Bool) (c:Value) (s:Nat) (w:World) (hn:0 ≤ n ∧ n < 3) (h0:w.cell? ⟨b,o,none⟩ = some (.int .i64 n)) (h1:w.cell? ⟨b,o + 1,none⟩ = some (.bool t)) (h2:w.cell? ⟨b,o + 2,none⟩ = some c)
 (f0:w.frozen? ⟨b,o,none⟩ = false) (f1:w.frozen? ⟨b,o + 1,none⟩ = false) (f2:w.frozen? ⟨b,o + 2,none⟩ = false) :
 Calls Tryz.prog 120 #[.pointer (some ⟨b,o,none⟩),.int .u64 s] w fun e w' => e = .returned (.int .i64 (n + 1)) ∧ w' = ((w.setCell ⟨b,o,none⟩ (.int .i64 (n + 1))).setCell ⟨b,o + 1,none⟩ (.bool true)).setCell ⟨b,o + 2,none⟩ (.int .u64 s):=by
 obtain ⟨ha,hb⟩:=hn
 go_enter Tryz.func120,Tryz.ntmps120
 go_wp2
 go_ret
 exact ⟨rfl,rfl⟩
set_option maxHeartbeats 400000 in
theorem end_any (b o:Nat) (t:Bool) (w:World) (h1:w.cell? ⟨b,o + 1,none⟩ = some (.bool t)) (f1:w.frozen? ⟨b,o + 1,none⟩ = false) :
 Calls Tryz.prog 61 #[.pointer (some ⟨b,o,none⟩)] w fun e w' => e = .returned (.tuple #[]) ∧ w' = w.setCell ⟨b,o + 1,none⟩ (.bool false):=by
 go_enter Tryz.func61,Tryz.ntmps61
 go_wp2
 go_end0
 exact ⟨rfl,rfl⟩
set_option maxHeartbeats 400000 in
theorem hosts_no (b o:Nat) (k:Int) (w:World) (h1:w.cell? ⟨b,o + 1,none⟩ = some (.bool false)) :
 Calls Tryz.prog 63 #[.pointer (some ⟨b,o,none⟩),.int .i64 k] w fun e w' => e = .returned (.bool false) ∧ w' = w:=by
 go_enter Tryz.func63,Tryz.ntmps63
 go_wp2
 go_ret
 exact ⟨rfl,rfl⟩
set_option maxHeartbeats 400000 in
theorem hosts_taken (b o:Nat) (n k:Int) (w:World) (h0:w.cell? ⟨b,o,none⟩ = some (.int .i64 n)) (h1:w.cell? ⟨b,o + 1,none⟩ = some (.bool true)) :
 Calls Tryz.prog 63 #[.pointer (some ⟨b,o,none⟩),.int .i64 k] w fun e w' => e = .returned (.bool (n == k)) ∧ w' = w:=by
 go_enter Tryz.func63,Tryz.ntmps63
 go_wp2
 go_ret
 exact ⟨rfl,rfl⟩
set_option maxHeartbeats 400000 in
theorem placeOf_any (b i:Nat) (l:Value) (w:World) (hi:i < 20) :
 Calls Tryz.prog 59 #[.pointer (some ⟨b,0,none⟩),.agg #[.int .i64 ((i:Int) + 1),l]] w fun e w' => e = .returned (.pointer (some ⟨b,1 + i * 3,none⟩)) ∧ Below w.heap.size w w':=by
 have hI1:(0:Int) ≤ (i:Int):=by omega
 have hI2:(i:Int) < 20:=by omega
 have hwr:IntKind.i64.wrap (i:Int) = (i:Int):=by rw [IntKind.wrap_i64];omega
 go_enter Tryz.func59,Tryz.ntmps59
 go_wp2
 go_region
 go_wp2
 go_ret
 exact ⟨rfl,((Below.refl _ _).alloc (Nat.le_refl _) _).drew⟩
def PlacesAt (w:World) (b:Nat) (bg:Nat → Nat) (tk:Nat → Bool) (cp:Nat → Nat):Prop :=
 b < w.heap.size ∧ ∀ i,i < 20 → w.cell? ⟨b,1 + i * 3,none⟩ = some (.int .i64 (bg i)) ∧ w.cell? ⟨b,1 + i * 3 + 1,none⟩ = some (.bool (tk i)) ∧ w.cell? ⟨b,1 + i * 3 + 2,none⟩ = some (.int .u64 (cp i)) ∧
  w.frozen? ⟨b,1 + i * 3,none⟩ = false ∧ w.frozen? ⟨b,1 + i * 3 + 1,none⟩ = false ∧ w.frozen? ⟨b,1 + i * 3 + 2,none⟩ = false
theorem PlacesAt.kept {w w':World} {b:Nat} {bg:Nat → Nat} {tk:Nat → Bool} {cp:Nat → Nat} (h:PlacesAt w b bg tk cp) (hs:w.heap.size ≤ w'.heap.size) (hb:w'.heap[b]? = w.heap[b]?):PlacesAt w' b bg tk cp:=by
 refine ⟨Nat.lt_of_lt_of_le h.1 hs,fun i hi => ?_⟩
 obtain ⟨a1,a2,a3,a4,a5,a6⟩:=h.2 i hi
 exact ⟨(World.cell?_of_block (a:=⟨b,_,none⟩) hb).trans a1,(World.cell?_of_block (a:=⟨b,_,none⟩) hb).trans a2,(World.cell?_of_block (a:=⟨b,_,none⟩) hb).trans a3,
  (World.frozen?_of_block (a:=⟨b,_,none⟩) hb).trans a4,(World.frozen?_of_block (a:=⟨b,_,none⟩) hb).trans a5,(World.frozen?_of_block (a:=⟨b,_,none⟩) hb).trans a6⟩
theorem PlacesAt.below {w w':World} {b:Nat} {bg:Nat → Nat} {tk:Nat → Bool} {cp:Nat → Nat} (h:PlacesAt w b bg tk cp) (hw:Below w.heap.size w w'):PlacesAt w' b bg tk cp :=
 h.kept hw.size (hw.block b h.1)
def upd {α:Type} (f:Nat → α) (i:Nat) (v:α):Nat → α:=fun j => if j = i then v else f j
theorem grownBy_below {w w':World} (h:Below w.heap.size w w') (row:Option Nat):w.grownBy w' row :=
 ⟨h.os,h.tape,h.output,h.size,fun k hk _ => h.block k hk⟩
theorem grownBy_tr {w w1 w2:World} {row:Option Nat} (h:w.grownBy w1 row) (k:w1.grownBy w2 row):w.grownBy w2 row :=
 ⟨k.os.trans h.os,k.tape.trans h.tape,k.output.trans h.output,Nat.le_trans h.size k.size,fun i hi hne => (k.block i (Nat.lt_of_lt_of_le hi h.size) hne).trans (h.block i hi hne)⟩
theorem set_same {w:World} {a:Addr} {u:Value} (v:Value) (h:w.cell? a = some u):(w.setCell a v).cell? a = some v:=World.cell?_setCell_same' w a v (by simp [h])
theorem set_other {w:World} {b o c p:Nat} (v:Value) (h:c ≠ b ∨ p ≠ o):(w.setCell ⟨b,o,none⟩ v).cell? ⟨c,p,none⟩ = w.cell? ⟨c,p,none⟩:=by
 have hne:(⟨b,o,none⟩:Addr) ≠ ⟨c,p,none⟩:=by
  intro e;simp at e;omega
 simp [World.cell?_setCell_other,hne]
theorem PlacesAt.leave {w:World} {b:Nat} {bg:Nat → Nat} {tk:Nat → Bool} {cp:Nat → Nat} (h:PlacesAt w b bg tk cp) (i:Nat) (hi:i < 20):PlacesAt (w.setCell ⟨b,1 + i * 3 + 1,none⟩ (.bool false)) b bg (upd tk i false) cp:=by
 refine ⟨by simpa [World.setCell] using h.1,fun j hj => ?_⟩
 obtain ⟨a1,a2,a3,a4,a5,a6⟩:=h.2 j hj
 refine ⟨?_,?_,?_,by simpa using a4,by simpa using a5,by simpa using a6⟩
 · rw [set_other _ (by omega)];exact a1
 · by_cases e:j = i
   · subst e;rw [set_same _ a2];simp [upd]
   · rw [set_other _ (by omega)];simpa [upd,e] using a2
 · rw [set_other _ (by omega)];exact a3
theorem hosts_any (b:Nat) (i:Nat) (k:Int) (bg:Nat → Nat) (tk:Nat → Bool) (cp:Nat → Nat) (w:World) (hi:i < 20) (hp:PlacesAt w b bg tk cp) :
 Calls Tryz.prog 63 #[.pointer (some ⟨b,1 + i * 3,none⟩),.int .i64 k] w fun e w' => e = .returned (.bool (tk i && ((bg i:Int) == k))) ∧ w' = w:=by
 obtain ⟨a1,a2,_⟩:=hp.2 i hi
 cases ht:tk i with
 | false => rw [ht] at a2;simpa using hosts_no b _ k w a2
 | true => rw [ht] at a2;simpa using hosts_taken b _ (bg i) k w a1 a2
set_option maxHeartbeats 800000 in
theorem alive_at (b:Nat) (i:Nat) (l:Int) (bg:Nat → Nat) (tk:Nat → Bool) (cp:Nat → Nat) (w:World) (hi:i < 20) (hp:PlacesAt w b bg tk cp) :
 Calls Tryz.prog 28 #[.pointer (some ⟨b,0,none⟩),.agg #[.int .i64 ((i:Int) + 1),.int .i64 l]] w fun e w' => e = .returned (.bool (tk i && ((bg i:Int) == l))) ∧ Below w.heap.size w w':=by
 have HP:Hid (PlacesAt w b bg tk cp):=hp
 clear hp
 have hB0:Hid (Below w.heap.size w (w.alloc (.cells #[.int .i64 ((i:Int) + 1),.int .i64 l] 46))):=(Below.refl _ _).alloc (Nat.le_refl _) _
 have KS:Hid (∀ w':World,Below (w.heap.size + 1) (w.alloc (.cells #[.int .i64 ((i:Int) + 1),.int .i64 l] 46)) w' → w'.cell? ⟨w.heap.size,0,none⟩ = some (.int .i64 ((i:Int) + 1)) ∧ w'.cell? ⟨w.heap.size,1,none⟩ = some (.int .i64 l)):=fun w' hb =>
  ⟨(hb.cell (p:=⟨w.heap.size,0,none⟩) (by simp)).trans (by simp),(hb.cell (p:=⟨w.heap.size,1,none⟩) (by simp)).trans (by simp)⟩
 go_enter Tryz.func28,Tryz.ntmps28
 go_wp2
 go_region_held3 (fun w' => w'.cell? ⟨w.heap.size,0,none⟩ = some (.int .i64 ((i:Int) + 1)) ∧ w'.cell? ⟨w.heap.size,1,none⟩ = some (.int .i64 l)) ((refine KS.out _ ?_;first | exact (Below.refl _ _).drew | exact HB1.out)) (first
  | (go_at_call 59;refine (placeOf_any b i _ _ hi).mono ?_;rintro e w1 ⟨rfl,hb1⟩;have HB1:Hid (Below (w.heap.size + 1) (w.alloc (.cells #[.int .i64 ((i:Int) + 1),.int .i64 l] 46)) w1):=⟨hb1.os,hb1.tape,hb1.output,hb1.size,fun k hk => hb1.block k (by simpa using hk)⟩;clear hb1)
  | (go_at_call 63;refine (hosts_any b i l bg tk cp _ hi (HP.out.below (hB0.out.trans (HB1.out.mono (by omega))))).mono ?_;rintro e w2 ⟨rfl,rfl⟩))
 go_wp2_with fail
 go_ret
 exact ⟨rfl,hB0.out.trans (HB1.out.mono (by omega))⟩
end Go.Proofs.YthkbeaffkcfgiabGreatDoor
