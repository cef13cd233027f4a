import Derived.Test.YthkbeaffkcfgiabGreatDoorR04
set_option linter.unusedSimpArgs false
set_option linter.unusedVariables false
namespace Go.Proofs.YthkbeaffkcfgiabGreatDoor
open Go.RowKit
theorem own_turn {W W':World} {base:Nat} {e:TypeId} {size:Nat} {v:Value} {n:Nat} {xs:List Value} (h:W.ownsRow base e size v n xs) (hb:∀ k,v.ownBlock = some k → k < W.heap.size → W'.heap[k]? = W.heap[k]?):W'.ownsRow base e size v n xs:=by
 have hlt:=h.lt
 obtain ⟨h1,h2⟩:=h
 refine ⟨h1,?_⟩
 rcases h2 with h2 | ⟨g,cap,cur,hv,hg,hh,r⟩
 · exact Or.inl h2
 · exact Or.inr ⟨g,cap,cur,hv,hg,by rw [hb g (by rw [hv];rfl) (hlt g (by rw [hv];rfl)).2];exact hh,r⟩
structure Turns (w w':World) (F:Nat → Prop):Prop where
 os:w'.os = w.os
 tape:w'.tape = w.tape
 output:w'.output = w.output
 size:w.heap.size ≤ w'.heap.size
 block:∀ k,k < w.heap.size → ¬ F k → w'.heap[k]? = w.heap[k]?
def grow (F:Nat → Prop) (W W':World):Nat → Prop:=fun k => F k ∨ (W.heap.size ≤ k ∧ k < W'.heap.size)
theorem Turns.ofBelow {w w':World} (F:Nat → Prop) (h:Below w.heap.size w w'):Turns w w' F:=⟨h.os,h.tape,h.output,h.size,fun k hk _ => h.block k hk⟩
theorem Turns.ofGrown {w w':World} {F:Nat → Prop} {row:Option Nat} (h:w.grownBy w' row) (hr:∀ k,row = some k → k < w.heap.size → F k):Turns w w' F :=
 ⟨h.os,h.tape,h.output,h.size,fun k hk hn => h.block k hk (fun e => hn (hr k e.symm hk))⟩
theorem Turns.trans {w w1 w2:World} {F:Nat → Prop} (h:Turns w w1 F) (k:Turns w1 w2 (grow F w w1)):Turns w w2 F :=
 ⟨k.os.trans h.os,k.tape.trans h.tape,k.output.trans h.output,Nat.le_trans h.size k.size,fun i hi hn => (k.block i (Nat.lt_of_lt_of_le hi h.size) (fun hg => by
  rcases hg with hg | hg
  · exact hn hg
  · omega)).trans (h.block i hi hn)⟩
theorem Turns.trans' {w w1 w2:World} {F:Nat → Prop} (h:Turns w w1 F) (k:Turns w1 w2 F):Turns w w2 F :=
 ⟨k.os.trans h.os,k.tape.trans h.tape,k.output.trans h.output,Nat.le_trans h.size k.size,fun i hi hn => (k.block i (Nat.lt_of_lt_of_le hi h.size) hn).trans (h.block i hi hn)⟩
theorem Turns.drew {w w':World} {F:Nat → Prop} (h:Turns w w' F):Turns w w'.drew F:=⟨h.os,h.tape,h.output,h.size,h.block⟩
theorem Turns.alloc {w w':World} {F:Nat → Prop} (h:Turns w w' F) (o:Obj):Turns w (w'.alloc o) F :=
 ⟨h.os,h.tape,h.output,by simp;have:=h.size;omega,fun k hk hn => (Below.heap_alloc w' o k (Nat.lt_of_lt_of_le hk h.size)).trans (h.block k hk hn)⟩
theorem Turns.set {w w':World} {F:Nat → Prop} (h:Turns w w' F) (b o:Nat) (u:Value) (hb:b < w.heap.size → F b):Turns w (w'.setCell ⟨b,o,none⟩ u) F :=
 ⟨h.os,h.tape,h.output,by simpa [World.setCell] using h.size,fun k hk hn => (Below.heap_setCell _ _ _ _ (fun e => hn (by have e':k = b:=e;subst e';exact hb hk))).trans (h.block k hk hn)⟩
theorem own_form {w:World} {base:Nat} {e:TypeId} {size:Nat} {v:Value} {n:Nat} {xs:List Value} (h:w.ownsRow base e size v n xs):∃ a c,v = .slice a n c:=by
 rcases h.2 with ⟨h1,h2⟩ | ⟨g,cap,cur,h1,_⟩
 · exact ⟨none,0,by rw [h1,h2]⟩
 · exact ⟨_,_,h1⟩
theorem heap_alloc_at {w:World} {k:Nat} (h:k = w.heap.size) (o:Obj):(w.alloc o).heap[k]? = some o:=by rw [h];exact _root_.Go.heap_alloc_new w o
end Go.Proofs.YthkbeaffkcfgiabGreatDoor
