import Derived.Shelf.Strings.SlTrimAscii
import Derived.Lib.AtoiAll
import Derived.Lib.AppendIntMem
import Derived.Lib.AtoiErrMem
import Derived.Laws.AppendOwnNone
import Derived.Lib.BufferRead
import Derived.Maps.AppendAt
import Derived.Test.YthkbeaffkcfgiabGreatDoorR08
import Derived.Test.YthkbeaffkcfgiabGreatDoorR03
import Derived.Test.YthkbeaffkcfgiabGreatDoorR05
set_option linter.unusedSimpArgs false
set_option linter.unusedVariables false
namespace Go.Proofs.YthkbeaffkcfgiabGreatDoor
open Go.RowKit
def wrongS:List PanicEntry:=[{ v:=.iface 262 (.agg #[]),recovered:=false }]
theorem needS_yes (x:Bool) (w:World) (hx:x = true):Calls Tryz.prog 183 #[.bool x] w fun e w' => e = .returned (.tuple #[]) ∧ w = w':=by
 subst hx
 go_enter Tryz.func183,Tryz.ntmps183
 go_wp2
 go_end0
 exact ⟨rfl,rfl⟩
theorem needS_no (x:Bool) (w:World) (hx:x = false):Calls Tryz.prog 183 #[.bool x] w fun e w' => e = .panicked wrongS ∧ w = w':=by
 subst hx
 go_enter Tryz.func183,Tryz.ntmps183
 go_wp2
 exact ⟨rfl,rfl,rfl⟩
def RdAt (w:World) (rb ty:Nat) (tail:List Value) (l:List UInt8):Prop:=w.heap[rb]? = some (.cells (Value.string (mk l) :: tail).toArray ty (0,0))
structure Rd (w w':World) (rb ty:Nat) (tail:List Value) (l:List UInt8):Prop where
 rest:RdAt w' rb ty tail l
 turns:Turns w w' (fun k => k = rb)
theorem RdAt.lt {w:World} {rb ty:Nat} {tail:List Value} {l:List UInt8} (h:RdAt w rb ty tail l):rb < w.heap.size:=(Array.getElem?_eq_some_iff.1 h).1
theorem RdAt.cell {w:World} {rb ty:Nat} {tail:List Value} {l:List UInt8} (h:RdAt w rb ty tail l):w.cell? ⟨rb,0,none⟩ = some (.string (mk l)):=by rw [cell_row h];rfl
theorem RdAt.frozen {w:World} {rb ty:Nat} {tail:List Value} {l:List UInt8} (h:RdAt w rb ty tail l) (o:Nat):w.frozen? ⟨rb,o,none⟩ = false:=frozen_row h o
theorem RdAt.keep {w w':World} {rb ty:Nat} {tail:List Value} {l:List UInt8} (h:RdAt w rb ty tail l) (hb:w'.heap[rb]? = w.heap[rb]?):RdAt w' rb ty tail l:=hb.trans h
theorem RdAt.below {w w':World} {rb ty:Nat} {tail:List Value} {l:List UInt8} (h:RdAt w rb ty tail l) (hb:Below w.heap.size w w'):RdAt w' rb ty tail l:=h.keep (hb.block rb h.lt)
theorem Rd.trans {w w1 w2:World} {rb ty:Nat} {tail:List Value} {l1 l2:List UInt8} (h:Rd w w1 rb ty tail l1) (k:Rd w1 w2 rb ty tail l2):Rd w w2 rb ty tail l2:=⟨k.rest,h.turns.trans' k.turns⟩
theorem Rd.below {w w1 w2:World} {rb ty:Nat} {tail:List Value} {l:List UInt8} (h:Rd w w1 rb ty tail l) (k:Below w1.heap.size w1 w2):Rd w w2 rb ty tail l:=⟨h.rest.below k,h.turns.trans' (Turns.ofBelow _ k)⟩
theorem RdAt.set {w:World} {rb ty:Nat} {tail:List Value} {l:List UInt8} (h:RdAt w rb ty tail l) (l':List UInt8):Rd w (w.setCell ⟨rb,0,none⟩ (.string (mk l'))) rb ty tail l':=by
 refine ⟨?_,Turns.set (Turns.ofBelow _ (Below.refl _ _)) rb 0 _ (fun _ => rfl)⟩
 have:=setCell_block (o:=0) (Value.string (mk l')) h
 unfold RdAt
 rw [this]
 simp
set_option maxHeartbeats 400000 in
theorem took_any (rb ty:Nat) (tail:List Value) (l p:List UInt8) (w:World) (hR:RdAt w rb ty tail l) :
 Calls Tryz.prog 238 #[.pointer (some ⟨rb,0,none⟩),.string (mk p)] w fun e w' => e = .returned (.bool (Lib.hasPrefix l p)) ∧ Rd w w' rb ty tail (Lib.trimPrefix l p):=by
 have h:=hR.cell
 have hf:=hR.frozen 0
 have HC:Hid (Calls Tryz.prog 181 #[.string (mk l),.string (mk p)] w fun e w' => e = .returned (.tuple #[.string (mk (Lib.trimPrefix l p)),.bool (Lib.hasPrefix l p)]) ∧ w' = w):=by
  have:=Tryz.strings_CutPrefix (mk l) (mk p) w
  rw [data_mk,data_mk] at this
  exact this
 have HE:Hid (Rd w (w.setCell ⟨rb,0,none⟩ (.string (mk (Lib.trimPrefix l p)))) rb ty tail (Lib.trimPrefix l p)):=hR.set _
 clear hR
 generalize Lib.hasPrefix l p = q at HC ⊢
 generalize Lib.trimPrefix l p = r at HC HE ⊢
 go_enter Tryz.func238,Tryz.ntmps238
 go_wp2_with (go_at_call 181;refine HC.out.mono ?_;rintro e w2 ⟨rfl,rfl⟩)
 go_ret
 exact ⟨rfl,HE.out⟩
set_option maxHeartbeats 400000 in
theorem skip_any (rb ty:Nat) (tail:List Value) (l p:List UInt8) (w:World) (hR:RdAt w rb ty tail l) :
 Calls Tryz.prog 186 #[.pointer (some ⟨rb,0,none⟩),.string (mk p)] w fun e w' => ((Lib.hasPrefix l p = true ∧ e = .returned (.tuple #[])) ∨ (Lib.hasPrefix l p = false ∧ e = .panicked wrongS)) ∧ Rd w w' rb ty tail (Lib.trimPrefix l p):=by
 have HC:Hid (Calls Tryz.prog 238 #[.pointer (some ⟨rb,0,none⟩),.string (mk p)] w fun e w' => e = .returned (.bool (Lib.hasPrefix l p)) ∧ Rd w w' rb ty tail (Lib.trimPrefix l p)):=took_any rb ty tail l p w hR
 clear hR
 cases hq:Lib.hasPrefix l p with
 | true =>
  rw [hq] at HC
  go_enter Tryz.func186,Tryz.ntmps186
  go_wp2_with (first | (go_at_call 238;refine HC.out.mono ?_;rintro e w2 ⟨rfl,hr⟩) | (go_at_call 183;refine (needS_yes _ _ rfl).mono ?_;rintro e w3 ⟨rfl,rfl⟩))
  go_end0
  exact ⟨Or.inl ⟨trivial,rfl⟩,hr⟩
 | false =>
  rw [hq] at HC
  go_enter Tryz.func186,Tryz.ntmps186
  go_wp2_with (first | (go_at_call 238;refine HC.out.mono ?_;rintro e w2 ⟨rfl,hr⟩) | (go_at_call 183;refine (needS_no _ _ rfl).mono ?_;rintro e w3 ⟨rfl,rfl⟩))
  exact ⟨rfl,Or.inr ⟨trivial,rfl⟩,hr⟩
theorem extract_mk (l:List UInt8) (a b:Nat):(mk l).extract a b = mk ((l.drop a).take (b - a)):=by
 have h:((mk l).extract a b).toList = (l.drop a).take (b - a):=by rw [Lib.extract_toList,data_mk]
 rw [_root_.Go.ByteArray.toList_eq] at h
 rw [← h,mk_data]
def REnds (w:World) (rb ty:Nat) (tail:List Value) (r:Option (Value × List UInt8)) (e:Ending) (w':World):Prop :=
 (∃ v l,r = some (v,l) ∧ e = .returned v ∧ Rd w w' rb ty tail l) ∨ (r = none ∧ e = .panicked wrongS ∧ Turns w w' (fun k => k = rb))
theorem turns_refl (w:World) (F:Nat → Prop):Turns w w F:=Turns.ofBelow F (Below.refl _ _)
def takeL (n:Nat) (l:List UInt8):Option (List UInt8 × List UInt8):=if n ≤ l.length then some (l.take n,l.drop n) else none
def strP (x:List UInt8 × List UInt8):Value × List UInt8:=(.string (mk x.1),x.2)
set_option maxHeartbeats 800000 in
theorem take_any (rb ty:Nat) (tail:List Value) (l:List UInt8) (n:Nat) (w:World) (hR:RdAt w rb ty tail l) (hl:l.length ≤ 2 ^ 50) (hn:n ≤ 2 ^ 50) :
 Calls Tryz.prog 287 #[.pointer (some ⟨rb,0,none⟩),.int .i64 n] w (REnds w rb ty tail ((takeL n l).map strP)):=by
 have h:=hR.cell
 have hf:=hR.frozen 0
 have hz:(mk l).size = l.length:=size_mk l
 by_cases hle:n ≤ l.length
 · have e1:(mk l).extract 0 n = mk (l.take n):=by rw [extract_mk];rfl
   have e2:(mk l).extract n l.length = mk (l.drop n):=by rw [extract_mk,List.take_of_length_le (by simp)]
   have HE:Hid (REnds w rb ty tail ((takeL n l).map strP) (.returned (.string (mk (l.take n)))) (w.setCell ⟨rb,0,none⟩ (.string (mk (l.drop n))))) :=
    Or.inl ⟨_,l.drop n,by unfold takeL;rw [if_pos hle];rfl,rfl,hR.set _⟩
   clear hR
   have hd:decide ((n:Int) ≤ (l.length:Int)) = true:=by simp [hle]
   go_enter Tryz.func287,Tryz.ntmps287
   go_wp2_with (go_at_call 183;refine (needS_yes _ _ (by first | rfl | exact hd)).mono ?_;rintro e w3 ⟨rfl,rfl⟩)
   go_ret
   exact HE.out
 · have HE:Hid (REnds w rb ty tail ((takeL n l).map strP) (.panicked wrongS) w) :=
    Or.inr ⟨by unfold takeL;rw [if_neg hle];rfl,rfl,turns_refl _ _⟩
   clear hR
   have hd:decide ((n:Int) ≤ (l.length:Int)) = false:=by simp;omega
   go_enter Tryz.func287,Tryz.ntmps287
   go_wp2_with (go_at_call 183;refine (needS_no _ _ (by first | rfl | exact hd)).mono ?_;rintro e w3 ⟨rfl,rfl⟩)
   exact ⟨rfl,HE.out⟩
def nextL:List UInt8 → Option (UInt8 × List UInt8)
 | [] => none
 | b :: r => some (b,r)
def bytP (x:UInt8 × List UInt8):Value × List UInt8:=(.int .u8 x.1.toNat,x.2)
set_option maxHeartbeats 800000 in
theorem next_any (rb ty:Nat) (tail:List Value) (l:List UInt8) (w:World) (hR:RdAt w rb ty tail l) (hl:l.length ≤ 2 ^ 50) :
 Calls Tryz.prog 269 #[.pointer (some ⟨rb,0,none⟩)] w (REnds w rb ty tail ((nextL l).map bytP)):=by
 have HT:Hid (Calls Tryz.prog 287 #[.pointer (some ⟨rb,0,none⟩),.int .i64 1] w (REnds w rb ty tail ((takeL 1 l).map strP))):=take_any rb ty tail l 1 w hR hl (by omega)
 clear hR
 cases l with
 | nil =>
  go_enter Tryz.func269,Tryz.ntmps269
  go_wp2_with fail
  refine Calls.mono HT.out ?_
  rintro e w2 (⟨v,l',hv,_,_⟩ | ⟨_,rfl,ht⟩)
  · simp [takeL] at hv
  · go_wp2_with fail
    exact ⟨rfl,Or.inr ⟨rfl,rfl,ht⟩⟩
 | cons b r =>
  go_enter Tryz.func269,Tryz.ntmps269
  go_wp2_with fail
  refine Calls.mono HT.out ?_
  rintro e w2 (⟨v,l',hv,rfl,ht⟩ | ⟨hn,_,_⟩)
  · simp [takeL,strP] at hv
    obtain ⟨rfl,rfl⟩:=hv
    have hi:(mk [b]).size = 1:=rfl
    have hg:(mk [b])[0]? = some b:=rfl
    go_wp2_with fail
    go_ret
    exact Or.inl ⟨_,_,rfl,rfl,ht⟩
  · simp [takeL] at hn
end Go.Proofs.YthkbeaffkcfgiabGreatDoor
namespace Go.Proofs.YthkbeaffkcfgiabGreatDoor
def hexL:List UInt8:=[48,49,50,51,52,53,54,55,56,57,97,98,99,100,101,102]
def digitL (l:List UInt8):Option (Nat × List UInt8) :=
 match nextL l with
 | none => none
 | some (b,r) => if 0 ≤ Lib.indexByte hexL b then some ((Lib.indexByte hexL b).toNat,r) else none
def plainL (b:UInt8):Bool:=decide (33 ≤ b.toNat) && decide (b.toNat ≤ 126) && !(b.toNat == 34) && !(b.toNat == 92)
def quotedByteL (l:List UInt8):Option (UInt8 × List UInt8) :=
 if Lib.hasPrefix l [92,120] then
  match digitL (Lib.trimPrefix l [92,120]) with
  | none => none
  | some (h,r) => match digitL r with
   | none => none
   | some (o,r2) => if plainL (UInt8.ofNat (h * 16 + o)) then none else some (UInt8.ofNat (h * 16 + o),r2)
 else match nextL l with
  | none => none
  | some (b,r) => if plainL b then some (b,r) else none
def quotedGo:Nat → List UInt8 → List UInt8 → Option (List UInt8 × List UInt8)
 | 0,acc,l => if Lib.hasPrefix l [34] then some (acc,Lib.trimPrefix l [34]) else none
 | n + 1,acc,l => if Lib.hasPrefix l [34] then some (acc,Lib.trimPrefix l [34]) else
  match quotedByteL l with
  | none => none
  | some (b,r) => quotedGo n (acc ++ [b]) r
def quotedL (l:List UInt8):Option (List UInt8 × List UInt8):=if Lib.hasPrefix l [34] then quotedGo 12 [] (Lib.trimPrefix l [34]) else none
def decSet:List UInt8:=[45,48,49,50,51,52,53,54,55,56,57]
def decimalL (l:List UInt8):Option (Int × List UInt8) :=
 match Lib.atoiAll (l.take (l.length - (Lib.trimLeftS l decSet).length)) with
 | .ok v => if Lib.itoa v = l.take (l.length - (Lib.trimLeftS l decSet).length) then some (v,l.drop (l.length - (Lib.trimLeftS l decSet).length)) else none
 | _ => none
def truthL (l:List UInt8):Option (Int × List UInt8) :=
 if Lib.hasPrefix l [116] then some (1,Lib.trimPrefix l [116]) else if Lib.hasPrefix l [102] then some (0,Lib.trimPrefix l [102]) else none
def refL (l:List UInt8):Option (Int × List UInt8) :=
 if Lib.hasPrefix l [45] then some (0,Lib.trimPrefix l [45]) else if Lib.hasPrefix l [64] then
  match decimalL (Lib.trimPrefix l [64]) with
  | none => none
  | some (n,r) => if 0 ≤ n ∧ n < 20 then some (n + 1,r) else none
 else none
def listGo:Nat → List Int → List UInt8 → Option (List Int × List UInt8)
 | 0,acc,l => if Lib.hasPrefix l [93] then some (acc,Lib.trimPrefix l [93]) else none
 | n + 1,acc,l => if Lib.hasPrefix l [93] then some (acc,Lib.trimPrefix l [93]) else
  if acc ≠ [] ∧ Lib.hasPrefix l [44] = false then none else
   match decimalL (if acc = [] then l else Lib.trimPrefix l [44]) with
   | none => none
   | some (x,r) => listGo n (acc ++ [x]) r
def listL (l:List UInt8):Option (List Int × List UInt8):=if Lib.hasPrefix l [91] then listGo 4 [] (Lib.trimPrefix l [91]) else none
theorem trim_len (l p:List UInt8):(Lib.trimPrefix l p).length ≤ l.length:=by
 unfold Lib.trimPrefix;split <;> simp
theorem trim_no {l p:List UInt8} (h:Lib.hasPrefix l p = false):Lib.trimPrefix l p = l:=by
 unfold Lib.trimPrefix;rw [h];simp
theorem nextL_len {l r:List UInt8} {b:UInt8} (h:nextL l = some (b,r)):r.length ≤ l.length:=by
 cases l with
 | nil => cases h
 | cons c t => simp [nextL] at h;rw [← h.2];simp
theorem digitL_len {l r:List UInt8} {n:Nat} (h:digitL l = some (n,r)):r.length ≤ l.length ∧ n < 16:=by
 unfold digitL at h
 cases hn:nextL l with
 | none => rw [hn] at h;cases h
 | some x =>
  obtain ⟨b,q⟩:=x
  rw [hn] at h
  simp only at h
  split at h
  · simp only [Option.some.injEq,Prod.mk.injEq] at h
    refine ⟨by rw [← h.2];exact nextL_len hn,?_⟩
    rw [← h.1]
    have:∀ n:Fin 256,(Lib.indexByte hexL (UInt8.ofNat n.val)).toNat < 16:=by decide +kernel
    have h2:=this ⟨b.toNat,b.toNat_lt⟩
    simpa using h2
  · cases h
theorem quotedByteL_len {l r:List UInt8} {b:UInt8} (h:quotedByteL l = some (b,r)):r.length ≤ l.length:=by
 unfold quotedByteL at h
 split at h
 · cases h1:digitL (Lib.trimPrefix l [92,120]) with
   | none => rw [h1] at h;cases h
   | some x =>
    obtain ⟨a,r1⟩:=x
    rw [h1] at h
    simp only at h
    cases h2:digitL r1 with
    | none => rw [h2] at h;cases h
    | some y =>
     obtain ⟨o,r2⟩:=y
     rw [h2] at h
     simp only at h
     split at h
     · cases h
     · simp only [Option.some.injEq,Prod.mk.injEq] at h
       have:=(digitL_len h1).1;have:=(digitL_len h2).1;have:=trim_len l [92,120]
       rw [← h.2];omega
 · cases h1:nextL l with
   | none => rw [h1] at h;cases h
   | some x =>
    obtain ⟨a,r1⟩:=x
    rw [h1] at h
    simp only at h
    split at h
    · simp only [Option.some.injEq,Prod.mk.injEq] at h
      rw [← h.2];exact nextL_len h1
    · cases h
theorem atoi_bound {l:List UInt8} {v:Int} (h:Lib.atoiAll l = .ok v):-9223372036854775808 ≤ v ∧ v ≤ 9223372036854775807:=by
 unfold Lib.atoiAll at h
 split at h
 · cases h
 · rename_i c r
   simp only at h
   split at h
   · cases h
   · cases h
   · rename_i u _
     split at h
     · cases h
     · split at h
       · cases h
       · injection h with h
         rw [← h]
         split <;> omega
theorem decimalL_len {l r:List UInt8} {n:Int} (h:decimalL l = some (n,r)):r.length ≤ l.length ∧ -9223372036854775808 ≤ n ∧ n ≤ 9223372036854775807:=by
 unfold decimalL at h
 split at h
 · rename_i v hv
   split at h
   · simp only [Option.some.injEq,Prod.mk.injEq] at h
     refine ⟨by rw [← h.2];simp,?_⟩
     rw [← h.1]
     exact atoi_bound hv
   · cases h
 · cases h
theorem quotedGo_yes (n:Nat) (acc:List UInt8) {r:List UInt8} (h:Lib.hasPrefix r [34] = true):quotedGo n acc r = some (acc,Lib.trimPrefix r [34]):=by
 cases n with
 | zero => rw [quotedGo,if_pos h]
 | succ n => rw [quotedGo,if_pos h]
theorem quotedGo_end (acc:List UInt8) {r:List UInt8} (h:Lib.hasPrefix r [34] = false):quotedGo 0 acc r = none:=by
 rw [quotedGo,if_neg (by rw [h];decide)]
theorem quotedGo_none (n:Nat) (acc:List UInt8) {r:List UInt8} (h:Lib.hasPrefix r [34] = false) (hb:quotedByteL r = none):quotedGo (n + 1) acc r = none:=by
 rw [quotedGo,if_neg (by rw [h];decide),hb]
theorem quotedGo_some (n:Nat) (acc:List UInt8) {r q:List UInt8} {b:UInt8} (h:Lib.hasPrefix r [34] = false) (hb:quotedByteL r = some (b,q)):quotedGo (n + 1) acc r = quotedGo n (acc ++ [b]) q:=by
 rw [quotedGo,if_neg (by rw [h];decide),hb]
theorem listGo_yes (n:Nat) (acc:List Int) {r:List UInt8} (h:Lib.hasPrefix r [93] = true):listGo n acc r = some (acc,Lib.trimPrefix r [93]):=by
 cases n with
 | zero => rw [listGo,if_pos h]
 | succ n => rw [listGo,if_pos h]
theorem listGo_end (acc:List Int) {r:List UInt8} (h:Lib.hasPrefix r [93] = false):listGo 0 acc r = none:=by
 rw [listGo,if_neg (by rw [h];decide)]
theorem listGo_comma (n:Nat) (acc:List Int) {r:List UInt8} (h:Lib.hasPrefix r [93] = false) (ha:acc ≠ []) (hc:Lib.hasPrefix r [44] = false):listGo (n + 1) acc r = none:=by
 rw [listGo,if_neg (by rw [h];decide),if_pos ⟨ha,hc⟩]
theorem listGo_none (n:Nat) (acc:List Int) {r r2:List UInt8} (h:Lib.hasPrefix r [93] = false) (hc:acc = [] ∧ r2 = r ∨ acc ≠ [] ∧ Lib.hasPrefix r [44] = true ∧ r2 = Lib.trimPrefix r [44]) (hb:decimalL r2 = none):listGo (n + 1) acc r = none:=by
 rw [listGo,if_neg (by rw [h];decide)]
 rcases hc with ⟨h1,rfl⟩ | ⟨h1,h2,rfl⟩
 · rw [if_neg (fun x => x.1 h1),if_pos h1,hb]
 · rw [if_neg (fun x => by rw [h2] at x;exact absurd x.2 (by decide)),if_neg h1,hb]
theorem listGo_some (n:Nat) (acc:List Int) {r r2 q:List UInt8} {x:Int} (h:Lib.hasPrefix r [93] = false) (hc:acc = [] ∧ r2 = r ∨ acc ≠ [] ∧ Lib.hasPrefix r [44] = true ∧ r2 = Lib.trimPrefix r [44]) (hb:decimalL r2 = some (x,q)):listGo (n + 1) acc r = listGo n (acc ++ [x]) q:=by
 rw [listGo,if_neg (by rw [h];decide)]
 rcases hc with ⟨h1,rfl⟩ | ⟨h1,h2,rfl⟩
 · rw [if_neg (fun x => x.1 h1),if_pos h1,hb]
 · rw [if_neg (fun x => by rw [h2] at x;exact absurd x.2 (by decide)),if_neg h1,hb]
end Go.Proofs.YthkbeaffkcfgiabGreatDoor
namespace Go.Proofs.YthkbeaffkcfgiabGreatDoor
open Go.RowKit
def intP (x:Int × List UInt8):Value × List UInt8:=(.int .i64 x.1,x.2)
def natP (x:Nat × List UInt8):Value × List UInt8:=(.int .u8 (x.1:Int),x.2)
theorem u8_ofNat (b:UInt8):((b.toNat:Int).toNat).toUInt8 = b:=by simp
set_option maxHeartbeats 800000 in
theorem digit_any (rb:Nat) (l:List UInt8) (w:World) (hR:RdAt w rb 271 [] l) (hl:l.length ≤ 2 ^ 50) :
 Calls Tryz.prog 316 #[.pointer (some ⟨rb,0,none⟩)] w (REnds w rb 271 [] ((digitL l).map natP)):=by
 have HN:Hid (Calls Tryz.prog 269 #[.pointer (some ⟨rb,0,none⟩)] w (REnds w rb 271 [] ((nextL l).map bytP))):=next_any rb 271 [] l w hR hl
 clear hR
 go_enter Tryz.func316,Tryz.ntmps316
 go_wp2_with fail
 refine Calls.mono HN.out ?_
 rintro e w2 (⟨v,l',hv,rfl,ht⟩ | ⟨hn,rfl,ht⟩)
 · cases hq:nextL l with
   | none => rw [hq] at hv;cases hv
   | some x =>
    obtain ⟨b,r⟩:=x
    rw [hq] at hv
    simp [bytP] at hv
    obtain ⟨rfl,rfl⟩:=hv
    have hI:∀ W:World,Calls Tryz.prog 331 #[.string ⟨#[48,49,50,51,52,53,54,55,56,57,97,98,99,100,101,102]⟩,.int .u8 b.toNat] W fun e w' => e = .returned (.int .i64 (Lib.indexByte hexL b)) ∧ w' = W:=fun W => by
     have:=Tryz.strings_IndexByte ⟨#[48,49,50,51,52,53,54,55,56,57,97,98,99,100,101,102]⟩ b.toNat W
     rw [u8_ofNat] at this
     exact this
    have HI:Hid _:=hI
    have hd:digitL l = if 0 ≤ Lib.indexByte hexL b then some ((Lib.indexByte hexL b).toNat,r) else none:=by unfold digitL;rw [hq]
    have hb16:Lib.indexByte hexL b < 16:=by
     have:∀ n:Fin 256,Lib.indexByte hexL (UInt8.ofNat n.val) < 16:=by decide +kernel
     have h2:=this ⟨b.toNat,b.toNat_lt⟩
     simpa using h2
    have HT:Hid (Rd w w2 rb 271 [] r):=ht
    have HD:Hid _:=hd
    clear ht hI hd hq
    generalize Lib.indexByte hexL b = i at HI HD hb16
    by_cases h0:0 ≤ i
    · have hw:IntKind.u8.wrap i = i:=by rw [IntKind.wrap_u8];omega
      have HE:Hid (REnds w rb 271 [] ((digitL l).map natP) (.returned (.int .u8 i)) w2):=Or.inl ⟨_,r,by rw [HD.out,if_pos h0];show some (Value.int .u8 ((i.toNat:Nat):Int),r) = _;rw [Int.toNat_of_nonneg h0],rfl,HT.out⟩
      go_wp2_with (first | (go_at_call 331;refine Calls.mono (HI.out _) ?_;rintro e w3 ⟨rfl,rfl⟩) | (go_at_call 183;refine (needS_yes _ _ (by first | rfl | (simp;omega))).mono ?_;rintro e w3 ⟨rfl,rfl⟩))
      go_ret
      exact HE.out
    · have HE:Hid (REnds w rb 271 [] ((digitL l).map natP) (.panicked wrongS) w2):=Or.inr ⟨by rw [HD.out,if_neg h0];rfl,rfl,HT.out.turns⟩
      go_wp2_with (first | (go_at_call 331;refine Calls.mono (HI.out _) ?_;rintro e w3 ⟨rfl,rfl⟩) | (go_at_call 183;refine (needS_no _ _ (by first | rfl | (simp;omega))).mono ?_;rintro e w3 ⟨rfl,rfl⟩))
      exact ⟨rfl,HE.out⟩
 · go_wp2_with fail
   refine ⟨rfl,Or.inr ⟨?_,rfl,ht⟩⟩
   cases hq:nextL l with
   | none => unfold digitL;rw [hq];rfl
   | some x => rw [hq] at hn;cases hn
def BoolEnds (q:Bool) (w:World) (e:Ending) (w':World):Prop:=∃ x,e = .returned (.bool x) ∧ x = q ∧ w' = w
set_option maxHeartbeats 800000 in
theorem plain_ends (b:UInt8) (w:World):Calls Tryz.prog 297 #[.int .u8 b.toNat] w (BoolEnds (plainL b) w):=by
 go_enter Tryz.func297,Tryz.ntmps297
 go_wp2
 all_goals go_ret
 all_goals refine ⟨_,rfl,?_,rfl⟩
 all_goals unfold plainL
 · have:b.toNat = 34:=by omega
   simp [this]
 · have h1:33 ≤ b.toNat:=by omega
   have h2:b.toNat ≤ 126:=by omega
   have h3:b.toNat ≠ 34:=by omega
   have e1:((b.toNat:Int) != 34) = !(b.toNat == 34):=by rw [Bool.eq_iff_iff];simp;omega
   have e2:((b.toNat:Int) != 92) = !(b.toNat == 92):=by rw [Bool.eq_iff_iff];simp;omega
   show ((b.toNat:Int) != 34 && (b.toNat:Int) != 92) = _
   rw [e1,e2]
   simp [h1,h2]
 · have h2:¬ b.toNat ≤ 126:=by omega
   simp [h2]
 · have h1:¬ 33 ≤ b.toNat:=by omega
   simp [h1]
theorem plain_any (b:UInt8) (w:World):Calls Tryz.prog 297 #[.int .u8 b.toNat] w fun e w' => e = .returned (.bool (plainL b)) ∧ w' = w :=
 (plain_ends b w).mono fun _ _ ⟨_,h1,h2,h3⟩ => ⟨by rw [h1,h2],h3⟩
set_option maxHeartbeats 800000 in
theorem truth_any (rb:Nat) (l:List UInt8) (w:World) (hR:RdAt w rb 271 [] l) :
 Calls Tryz.prog 283 #[.pointer (some ⟨rb,0,none⟩)] w (REnds w rb 271 [] ((truthL l).map intP)):=by
 have HN:Hid (Calls Tryz.prog 238 #[.pointer (some ⟨rb,0,none⟩),.string (mk [116])] w _):=took_any rb 271 [] l [116] w hR
 clear hR
 cases hq:Lib.hasPrefix l [116] with
 | true =>
  have HE:Hid (truthL l = some (1,Lib.trimPrefix l [116])):=by show _ = _;unfold truthL;rw [hq];rfl
  rw [hq] at HN
  go_enter Tryz.func283,Tryz.ntmps283
  go_wp2_with (go_at_call 238;refine Calls.mono HN.out ?_;rintro e w2 ⟨rfl,ht⟩)
  go_ret
  exact Or.inl ⟨_,_,by rw [HE.out];rfl,rfl,ht⟩
 | false =>
  have HE:Hid (truthL l = if Lib.hasPrefix l [102] then some (0,Lib.trimPrefix l [102]) else none):=by show _ = _;unfold truthL;rw [hq];rfl
  rw [hq,trim_no hq] at HN
  go_enter Tryz.func283,Tryz.ntmps283
  go_wp2_with (go_at_call 238;refine Calls.mono HN.out ?_;rintro e w2 ⟨rfl,ht⟩)
  refine (skip_any rb 271 [] l [102] w2 ht.rest).mono ?_
  rintro e w3 ⟨⟨h1,rfl⟩ | ⟨h1,rfl⟩,h2⟩
  · rw [h1] at HE
    go_wp2_with fail
    go_ret
    exact Or.inl ⟨_,_,by rw [HE.out];rfl,rfl,ht.trans h2⟩
  · rw [h1] at HE
    go_wp2_with fail
    exact ⟨rfl,Or.inr ⟨by rw [HE.out];rfl,rfl,(ht.trans h2).turns⟩⟩
theorem or_hex (h o:Nat) (h1:h < 16) (h2:o < 16):bits .or .u8 ((h:Int) * 16) (o:Int) = ((UInt8.ofNat (h * 16 + o)).toNat:Int):=by
 have:∀ a b:Fin 16,bits .or .u8 ((a.val:Int) * 16) (b.val:Int) = ((UInt8.ofNat (a.val * 16 + b.val)).toNat:Int):=by decide +kernel
 exact this ⟨h,h1⟩ ⟨o,h2⟩
set_option maxHeartbeats 1600000 in
theorem quotedByte_any (rb:Nat) (l:List UInt8) (w:World) (hR:RdAt w rb 271 [] l) (hl:l.length ≤ 2 ^ 50) :
 Calls Tryz.prog 301 #[.pointer (some ⟨rb,0,none⟩)] w (REnds w rb 271 [] ((quotedByteL l).map bytP)):=by
 have HN:Hid (Calls Tryz.prog 238 #[.pointer (some ⟨rb,0,none⟩),.string (mk [92,120])] w _):=took_any rb 271 [] l [92,120] w hR
 clear hR
 cases hq:Lib.hasPrefix l [92,120] with
 | true =>
  have HE:Hid (quotedByteL l = match digitL (Lib.trimPrefix l [92,120]) with
   | none => none
   | some (h,r) => match digitL r with
    | none => none
    | some (o,r2) => if plainL (UInt8.ofNat (h * 16 + o)) then none else some (UInt8.ofNat (h * 16 + o),r2)):=by show _ = _;unfold quotedByteL;rw [hq];rfl
  rw [hq] at HN
  have hl2:=trim_len l [92,120]
  generalize Lib.trimPrefix l [92,120] = l2 at HN HE hl2
  go_enter Tryz.func301,Tryz.ntmps301
  go_wp2_with (go_at_call 238;refine Calls.mono HN.out ?_;rintro e w2 ⟨rfl,ht⟩)
  refine (digit_any rb l2 w2 ht.rest (by omega)).mono ?_
  rintro e w3 (⟨v,l3,hv,rfl,ht3⟩ | ⟨hn,rfl,ht3⟩)
  · cases h1:digitL l2 with
    | none => rw [h1] at hv;cases hv
    | some x =>
     obtain ⟨a,r⟩:=x
     rw [h1] at hv HE
     simp [natP] at hv
     obtain ⟨rfl,rfl⟩:=hv
     obtain ⟨hr,ha⟩:=digitL_len h1
     go_wp2_with fail
     refine (digit_any rb r w3 ht3.rest (by omega)).mono ?_
     rintro e w4 (⟨v,l4,hv,rfl,ht4⟩ | ⟨hn,rfl,ht4⟩)
     · cases h2:digitL r with
       | none => rw [h2] at hv;cases hv
       | some y =>
        obtain ⟨o,r2⟩:=y
        rw [h2] at hv
        try simp only at HE
        rw [h2] at HE
        simp [natP] at hv
        obtain ⟨rfl,rfl⟩:=hv
        obtain ⟨hr2,ho⟩:=digitL_len h2
        have hor:=or_hex a o ha ho
        try simp only at HE
        have HT:Hid (Rd w w4 rb 271 [] r2):=(ht.trans ht3).trans ht4
        clear ht ht3 ht4 h1 h2
        generalize UInt8.ofNat (a * 16 + o) = b at hor HE
        cases hp:plainL b with
        | true =>
         rw [hp] at HE
         have HP:Hid (∀ W,Calls Tryz.prog 297 #[.int .u8 b.toNat] W fun e w' => e = .returned (.bool true) ∧ w' = W):=fun W => by rw [← hp];exact plain_any b W
         go_wp2_with (first | (go_at_call 297;refine Calls.mono (HP.out _) ?_;rintro e w3 ⟨rfl,rfl⟩) | (go_at_call 183;refine (needS_no _ _ rfl).mono ?_;rintro e w3 ⟨rfl,rfl⟩))
         exact ⟨rfl,Or.inr ⟨by rw [HE.out];rfl,rfl,HT.out.turns⟩⟩
        | false =>
         rw [hp] at HE
         have HP:Hid (∀ W,Calls Tryz.prog 297 #[.int .u8 b.toNat] W fun e w' => e = .returned (.bool false) ∧ w' = W):=fun W => by rw [← hp];exact plain_any b W
         go_wp2_with (first | (go_at_call 297;refine Calls.mono (HP.out _) ?_;rintro e w3 ⟨rfl,rfl⟩) | (go_at_call 183;refine (needS_yes _ _ rfl).mono ?_;rintro e w3 ⟨rfl,rfl⟩))
         go_ret
         exact Or.inl ⟨_,_,by rw [HE.out];rfl,rfl,HT.out⟩
     · have hnn:digitL r = none:=by
        cases h2:digitL r with
        | none => rfl
        | some y => rw [h2] at hn;cases hn
       go_wp2_with fail
       try simp only at HE
       rw [hnn] at HE
       exact ⟨rfl,Or.inr ⟨by rw [HE.out];rfl,rfl,((ht.trans ht3).turns).trans' ht4⟩⟩
  · have hnn:digitL l2 = none:=by
     cases h2:digitL l2 with
     | none => rfl
     | some y => rw [h2] at hn;cases hn
    go_wp2_with fail
    rw [hnn] at HE
    exact ⟨rfl,Or.inr ⟨by rw [HE.out];rfl,rfl,ht.turns.trans' ht3⟩⟩
 | false =>
  have HE:Hid (quotedByteL l = match nextL l with
   | none => none
   | some (b,r) => if plainL b then some (b,r) else none):=by show _ = _;unfold quotedByteL;rw [hq];rfl
  rw [hq,trim_no hq] at HN
  go_enter Tryz.func301,Tryz.ntmps301
  go_wp2_with (go_at_call 238;refine Calls.mono HN.out ?_;rintro e w2 ⟨rfl,ht⟩)
  refine (next_any rb 271 [] l w2 ht.rest hl).mono ?_
  rintro e w3 (⟨v,l3,hv,rfl,ht3⟩ | ⟨hn,rfl,ht3⟩)
  · cases h1:nextL l with
    | none => rw [h1] at hv;cases hv
    | some x =>
     obtain ⟨b,r⟩:=x
     rw [h1] at hv HE
     simp [bytP] at hv
     obtain ⟨rfl,rfl⟩:=hv
     try simp only at HE
     have HT:Hid (Rd w w3 rb 271 [] r):=ht.trans ht3
     clear ht ht3 h1
     cases hp:plainL b with
     | true =>
      rw [hp] at HE
      have HP:Hid (∀ W,Calls Tryz.prog 297 #[.int .u8 b.toNat] W fun e w' => e = .returned (.bool true) ∧ w' = W):=fun W => by rw [← hp];exact plain_any b W
      go_wp2_with (first | (go_at_call 297;refine Calls.mono (HP.out _) ?_;rintro e w3 ⟨rfl,rfl⟩) | (go_at_call 183;refine (needS_yes _ _ rfl).mono ?_;rintro e w3 ⟨rfl,rfl⟩))
      go_ret
      exact Or.inl ⟨_,_,by rw [HE.out];rfl,rfl,HT.out⟩
     | false =>
      rw [hp] at HE
      have HP:Hid (∀ W,Calls Tryz.prog 297 #[.int .u8 b.toNat] W fun e w' => e = .returned (.bool false) ∧ w' = W):=fun W => by rw [← hp];exact plain_any b W
      go_wp2_with (first | (go_at_call 297;refine Calls.mono (HP.out _) ?_;rintro e w3 ⟨rfl,rfl⟩) | (go_at_call 183;refine (needS_no _ _ rfl).mono ?_;rintro e w3 ⟨rfl,rfl⟩))
      exact ⟨rfl,Or.inr ⟨by rw [HE.out];rfl,rfl,HT.out.turns⟩⟩
  · have hnn:nextL l = none:=by
     cases h2:nextL l with
     | none => rfl
     | some y => rw [h2] at hn;cases hn
    go_wp2_with fail
    rw [hnn] at HE
    exact ⟨rfl,Or.inr ⟨by rw [HE.out];rfl,rfl,ht.turns.trans' ht3⟩⟩
structure Glob (w:World):Prop where
 most:∃ m,w.cell? ⟨3,0,none⟩ = some (.int .i64 m)
 syn:∃ te pe,w.cell? ⟨7,0,none⟩ = some (.iface te pe)
 rng:∃ te pe,w.cell? ⟨8,0,none⟩ = some (.iface te pe)
 tab:Lib.TabIs Tryz.prog w "internal/strconv.uint64pow10" .u64 Lib.pow10Tab
 size:11 ≤ w.heap.size
theorem tab_block {w w':World} (h:Lib.TabIs Tryz.prog w "internal/strconv.uint64pow10" .u64 Lib.pow10Tab) (hb:w'.heap[6]? = w.heap[6]?):Lib.TabIs Tryz.prog w' "internal/strconv.uint64pow10" .u64 Lib.pow10Tab:=by
 unfold Lib.TabIs World.var? at h ⊢
 have hg:Tryz.prog.globalNamed "internal/strconv.uint64pow10" = some 6:=by kernel_rfl
 rw [hg] at h ⊢
 simp only [Option.bind_some] at h ⊢
 rw [hb]
 exact h
theorem Glob.turn {w w':World} (h:Glob w) (hs:w.heap.size ≤ w'.heap.size) (hb:∀ k,k < 11 → w'.heap[k]? = w.heap[k]?):Glob w':=by
 obtain ⟨m,h1⟩:=h.most
 obtain ⟨a,b,h2⟩:=h.syn
 obtain ⟨c,d,h3⟩:=h.rng
 exact ⟨⟨m,(World.cell?_of_block (a:=⟨3,0,none⟩) (hb 3 (by omega))).trans h1⟩,⟨a,b,(World.cell?_of_block (a:=⟨7,0,none⟩) (hb 7 (by omega))).trans h2⟩,⟨c,d,(World.cell?_of_block (a:=⟨8,0,none⟩) (hb 8 (by omega))).trans h3⟩,tab_block h.tab (hb 6 (by omega)),Nat.le_trans h.size hs⟩
theorem Glob.below {w w':World} {n:Nat} (h:Glob w) (hn:11 ≤ n) (hb:Below n w w') (hs:w.heap.size ≤ w'.heap.size):Glob w':=h.turn hs fun k hk => hb.block k (by omega)
theorem Glob.turns {w w':World} {F:Nat → Prop} (h:Glob w) (ht:Turns w w' F) (hF:∀ k,F k → 11 ≤ k):Glob w':=h.turn ht.size fun k hk => ht.block k (by have:=h.size;omega) (fun hk' => by have:=hF k hk';omega)
theorem word_len (l:List UInt8):(Lib.trimLeftS l decSet).length ≤ l.length:=by
 unfold Lib.trimLeftS
 exact List.Sublist.length_le (List.dropWhile_sublist _)
set_option maxHeartbeats 3200000 in
theorem decimal_any (rb:Nat) (l:List UInt8) (w:World) (hR:RdAt w rb 271 [] l) (hl:l.length ≤ 2 ^ 40) (hG:Glob w) (hrb:11 ≤ rb) :
 Calls Tryz.prog 282 #[.pointer (some ⟨rb,0,none⟩)] w (REnds w rb 271 [] ((decimalL l).map intP)):=by
 have hc:=hR.cell
 have hz:(mk l).size = l.length:=size_mk l
 have HTr:Hid (Calls Tryz.prog 298 #[.string (mk l),.string ⟨#[45,48,49,50,51,52,53,54,55,56,57]⟩] w fun e w' => e = .returned (.string (mk (Lib.trimLeftS l decSet))) ∧ Below w.heap.size w w'):=by
  have:=Go.Proofs.Any.strings_TrimLeft_laid Tryz.lays161 (by kernel_rfl) (mk l) ⟨#[45,48,49,50,51,52,53,54,55,56,57]⟩ w (by decide) (ascii_of_all (by decide))
  rw [data_mk] at this
  exact this
 have hwl:=word_len l
 have HD:Hid (decimalL l = match Lib.atoiAll (l.take (l.length - (Lib.trimLeftS l decSet).length)) with
  | .ok v => if Lib.itoa v = l.take (l.length - (Lib.trimLeftS l decSet).length) then some (v,l.drop (l.length - (Lib.trimLeftS l decSet).length)) else none
  | _ => none):=rfl
 have HR:Hid (RdAt w rb 271 [] l):=hR
 have HGl:Hid (Glob w):=hG
 clear hR hG
 generalize Lib.trimLeftS l decSet = behind at HTr hwl HD
 go_enter Tryz.func282,Tryz.ntmps282
 go_wp2_with fail
 refine Calls.mono HTr.out ?_
 rintro e w2 ⟨rfl,hb2⟩
 have hR2:=HR.out.below hb2
 have hc2:=hR2.cell
 have hz2:(mk behind).size = behind.length:=size_mk behind
 have hsub:((l.length:Int) - (behind.length:Int)) = ((l.length - behind.length:Nat):Int):=by omega
 obtain ⟨n,hn⟩:∃ n,n = l.length - behind.length:=⟨_,rfl⟩
 rw [← hn] at hsub HD
 have HTk:Hid (Calls Tryz.prog 287 #[.pointer (some ⟨rb,0,none⟩),.int .i64 n] w2.drew fun e w' => e = .returned (.string (mk (l.take n))) ∧ Rd w w' rb 271 [] (l.drop n)):=by
  refine (take_any rb 271 [] l n w2.drew hR2 (by omega) (by omega)).mono ?_
  rintro e w' (⟨v,l',hv,rfl,ht⟩ | ⟨hnn,_,_⟩)
  · unfold takeL at hv
    rw [if_pos (by omega)] at hv
    simp [strP] at hv
    obtain ⟨rfl,rfl⟩:=hv
    exact ⟨rfl,ht.rest,(Turns.ofBelow _ hb2).trans' ⟨ht.turns.os,ht.turns.tape,ht.turns.output,ht.turns.size,ht.turns.block⟩⟩
  · unfold takeL at hnn
    rw [if_pos (by omega)] at hnn
    cases hnn
 clear hb2 hR2
 have hwr:IntKind.i64.wrap (n:Int) = (n:Int):=by rw [IntKind.wrap_i64];omega
 clear hn
 go_wp2_with fail
 go_region_with (go_at_call 287;refine Calls.mono HTk.out ?_;rintro e w3 ⟨rfl,ht3⟩)
 have HT3:Hid (Rd w w3 rb 271 [] (l.drop n)):=ht3
 have HG3:Hid (Glob w3):=HGl.out.turns ht3.turns (fun k hk => by subst hk;exact hrb)
 have hwz:(mk (l.take n)).size ≤ 2 ^ 40:=by rw [size_mk];simp;omega
 have HDt:Hid ((mk (l.take n)).data.toList = l.take n):=data_mk _
 clear ht3
 generalize l.take n = word at HD HDt hwz HTk ⊢
 cases ha:Lib.atoiAll word with
 | ok v =>
  rw [ha] at HD
  obtain ⟨hv0,hv1⟩:=atoi_bound ha
  have HA:Hid (Calls Tryz.prog 299 #[.string (mk word)] w3 fun e w' => e = .returned (.tuple #[.int .i64 v,.nilIface]) ∧ Below w3.heap.size w3 w'):=by
   refine (Tryz.strconv_Atoi_ok (mk word) (by omega) v (by rw [HDt.out];exact ha) w3).mono ?_
   rintro e w' ⟨rfl,rfl | ⟨t,rfl⟩⟩
   · exact ⟨rfl,Below.refl _ _⟩
   · exact ⟨rfl,Lib.bytesWorld_below _ _ _⟩
  go_wp2_with (go_at_call 299;refine Calls.mono HA.out ?_;rintro e w4 ⟨rfl,hb4⟩)
  have HT4:Hid (Rd w w4 rb 271 [] (l.drop n)):=HT3.out.below hb4
  have HI:Hid (Calls Tryz.prog 300 #[.int .i64 v] w4 fun e w' => e = .returned (.string (mk (Lib.itoa v))) ∧ Below w4.heap.size w4 w'):=by
   refine (Tryz.strconv_Itoa v hv0 hv1 w4 (HG3.out.below HG3.out.size hb4 hb4.size).tab).mono ?_
   rintro e w' ⟨rfl,k,os,rfl⟩
   exact ⟨rfl,Lib.below_grow _ _ (Nat.le_refl _) _ _⟩
  clear hb4 ha
  by_cases hq:Lib.itoa v = word
  · rw [if_pos hq] at HD
    rw [hq] at HI
    have hbq:((mk word).toList == (mk word).toList) = true:=by simp
    have HE:Hid (∀ w5,Below w4.heap.size w4 w5 → REnds w rb 271 [] ((decimalL l).map intP) (.returned (.int .i64 v)) w5):=fun w5 hb5 => Or.inl ⟨_,_,by rw [HD.out];rfl,rfl,HT4.out.below hb5⟩
    go_wp2_with (first | (go_at_call 300;refine Calls.mono HI.out ?_;rintro e w5 ⟨rfl,hb5⟩) | (go_at_call 183;refine (needS_yes _ _ (by first | rfl | simp)).mono ?_;rintro e w6 ⟨rfl,rfl⟩))
    go_ret
    exact HE.out _ hb5
  · rw [if_neg hq] at HD
    have hbq:((mk (Lib.itoa v)).toList == (mk word).toList) = false:=by rw [toList_mk,toList_mk,beq_eq_false_iff_ne];exact hq
    have HE:Hid (∀ w5,Below w4.heap.size w4 w5 → REnds w rb 271 [] ((decimalL l).map intP) (.panicked wrongS) w5):=fun w5 hb5 => Or.inr ⟨by rw [HD.out];rfl,rfl,(HT4.out.below hb5).turns⟩
    go_wp2_with (first | (go_at_call 300;refine Calls.mono HI.out ?_;rintro e w5 ⟨rfl,hb5⟩) | (go_at_call 183;refine (needS_no _ _ (by first | rfl | simp)).mono ?_;rintro e w6 ⟨rfl,rfl⟩))
    exact ⟨rfl,HE.out _ hb5⟩
 | «syntax» =>
  rw [ha] at HD
  obtain ⟨te,pe,hs⟩:=HG3.out.syn
  have HA:Hid (Calls Tryz.prog 299 #[.string (mk word)] w3 fun e w' => ∃ N:Nat,e = .returned (.tuple #[.int .i64 0,.iface 407 (.pointer (some ⟨N,0,none⟩))]) ∧ Below w3.heap.size w3 w'):=by
   refine (Tryz.strconv_Atoi_syntax (mk word) (by omega) (by rw [HDt.out];exact ha) _ w3 hs (Or.inr ⟨te,pe,rfl⟩)).mono ?_
   rintro e w' ⟨N,rfl,_,_,hb⟩
   exact ⟨N,rfl,hb⟩
  have HE:Hid (∀ w5,Below w3.heap.size w3 w5 → REnds w rb 271 [] ((decimalL l).map intP) (.panicked wrongS) w5):=fun w5 hb5 => Or.inr ⟨by rw [HD.out];rfl,rfl,(HT3.out.below hb5).turns⟩
  clear ha hs
  go_wp2_with (first | (go_at_call 299;refine Calls.mono HA.out ?_;rintro e w4 ⟨N,rfl,hb4⟩) | (go_at_call 183;refine (needS_no _ _ (by first | rfl | simp)).mono ?_;rintro e w6 ⟨rfl,rfl⟩))
  exact ⟨rfl,HE.out _ hb4⟩
 | range =>
  rw [ha] at HD
  obtain ⟨te,pe,hs⟩:=HG3.out.rng
  have HA:Hid (Calls Tryz.prog 299 #[.string (mk word)] w3 fun e w' => ∃ (N:Nat) (x:Int),e = .returned (.tuple #[.int .i64 x,.iface 407 (.pointer (some ⟨N,0,none⟩))]) ∧ Below w3.heap.size w3 w'):=by
   refine (Tryz.strconv_Atoi_range (mk word) (by omega) (by rw [HDt.out];exact ha) _ w3 hs (Or.inr ⟨te,pe,rfl⟩)).mono ?_
   rintro e w' ⟨N,rfl,_,_,hb⟩
   exact ⟨N,_,rfl,hb⟩
  have HE:Hid (∀ w5,Below w3.heap.size w3 w5 → REnds w rb 271 [] ((decimalL l).map intP) (.panicked wrongS) w5):=fun w5 hb5 => Or.inr ⟨by rw [HD.out];rfl,rfl,(HT3.out.below hb5).turns⟩
  clear ha hs
  go_wp2_with (first | (go_at_call 299;refine Calls.mono HA.out ?_;rintro e w4 ⟨N,x,rfl,hb4⟩) | (go_at_call 183;refine (needS_no _ _ (by first | rfl | simp)).mono ?_;rintro e w6 ⟨rfl,rfl⟩))
  exact ⟨rfl,HE.out _ hb4⟩
set_option maxHeartbeats 1600000 in
theorem ref_any (rb:Nat) (l:List UInt8) (w:World) (hR:RdAt w rb 271 [] l) (hl:l.length ≤ 2 ^ 40) (hG:Glob w) (hrb:11 ≤ rb) :
 Calls Tryz.prog 285 #[.pointer (some ⟨rb,0,none⟩)] w (REnds w rb 271 [] ((refL l).map intP)):=by
 have HN:Hid (Calls Tryz.prog 238 #[.pointer (some ⟨rb,0,none⟩),.string (mk [45])] w _):=took_any rb 271 [] l [45] w hR
 have HGl:Hid (Glob w):=hG
 clear hR hG
 cases hq:Lib.hasPrefix l [45] with
 | true =>
  have HE:Hid (refL l = some (0,Lib.trimPrefix l [45])):=by show _ = _;unfold refL;rw [hq];rfl
  rw [hq] at HN
  go_enter Tryz.func285,Tryz.ntmps285
  go_wp2_with (go_at_call 238;refine Calls.mono HN.out ?_;rintro e w2 ⟨rfl,ht⟩)
  go_ret
  exact Or.inl ⟨_,_,by rw [HE.out];rfl,rfl,ht⟩
 | false =>
  have HE:Hid (refL l = if Lib.hasPrefix l [64] then
   match decimalL (Lib.trimPrefix l [64]) with
   | none => none
   | some (n,r) => if 0 ≤ n ∧ n < 20 then some (n + 1,r) else none
   else none):=by show _ = _;unfold refL;rw [hq];rfl
  rw [hq,trim_no hq] at HN
  go_enter Tryz.func285,Tryz.ntmps285
  go_wp2_with (go_at_call 238;refine Calls.mono HN.out ?_;rintro e w2 ⟨rfl,ht⟩)
  refine (skip_any rb 271 [] l [64] w2 ht.rest).mono ?_
  rintro e w3 ⟨⟨h1,rfl⟩ | ⟨h1,rfl⟩,h2⟩
  · rw [h1] at HE
    have hl2:=trim_len l [64]
    have HT:Hid (Rd w w3 rb 271 [] (Lib.trimPrefix l [64])):=ht.trans h2
    clear ht h2 h1
    generalize Lib.trimPrefix l [64] = l2 at HE HT hl2
    go_wp2_with fail
    refine (decimal_any rb l2 w3 HT.out.rest (by omega) (HGl.out.turns HT.out.turns (fun k hk => by subst hk;exact hrb)) hrb).mono ?_
    rintro e w4 (⟨v,l3,hv,rfl,ht3⟩ | ⟨hn,rfl,ht3⟩)
    · cases hd:decimalL l2 with
      | none => rw [hd] at hv;cases hv
      | some x =>
       obtain ⟨n,r⟩:=x
       rw [hd] at hv HE
       simp [intP] at hv
       obtain ⟨rfl,rfl⟩:=hv
       have HT4:Hid (Rd w w4 rb 271 [] r):=HT.out.trans ht3
       clear hd ht3
       by_cases h0:0 ≤ n
       · by_cases h20:n < 20
         · have hw:IntKind.i64.wrap (n + 1) = n + 1:=by rw [IntKind.wrap_i64];omega
           have HE2:Hid (REnds w rb 271 [] ((refL l).map intP) (.returned (.int .i64 (n + 1))) w4):=Or.inl ⟨_,_,by rw [HE.out];simp [h0,h20];rfl,rfl,HT4.out⟩
           go_wp2_with (go_at_call 183;refine (needS_yes _ _ (by first | rfl | (simp;omega))).mono ?_;rintro e w6 ⟨rfl,rfl⟩)
           go_ret
           exact HE2.out
         · have HE2:Hid (REnds w rb 271 [] ((refL l).map intP) (.panicked wrongS) w4):=Or.inr ⟨by rw [HE.out];simp [h0,h20],rfl,HT4.out.turns⟩
           go_wp2_with (go_at_call 183;refine (needS_no _ _ (by first | rfl | (simp;omega))).mono ?_;rintro e w6 ⟨rfl,rfl⟩)
           exact ⟨rfl,HE2.out⟩
       · have HE2:Hid (REnds w rb 271 [] ((refL l).map intP) (.panicked wrongS) w4):=Or.inr ⟨by rw [HE.out];simp [h0],rfl,HT4.out.turns⟩
         go_wp2_with (go_at_call 183;refine (needS_no _ _ (by first | rfl | (simp;omega))).mono ?_;rintro e w6 ⟨rfl,rfl⟩)
         exact ⟨rfl,HE2.out⟩
    · have hnn:decimalL l2 = none:=by
       cases h2:decimalL l2 with
       | none => rfl
       | some y => rw [h2] at hn;cases hn
      rw [hnn] at HE
      go_wp2_with fail
      exact ⟨rfl,Or.inr ⟨by rw [HE.out];rfl,rfl,HT.out.turns.trans' ht3⟩⟩
  · rw [h1] at HE
    go_wp2_with fail
    exact ⟨rfl,Or.inr ⟨by rw [HE.out];rfl,rfl,(ht.trans h2).turns⟩⟩
def lenV:Value → Nat
 | .slice _ n _ => n
 | _ => 0
theorem Turns.grown {w w1 w2:World} {F:Nat → Prop} {row:Option Nat} (h:Turns w w1 F) (g:w1.grownBy w2 row) (hr:∀ k,row = some k → w.heap.size ≤ k):Turns w w2 F :=
 ⟨g.os.trans h.os,g.tape.trans h.tape,g.output.trans h.output,Nat.le_trans h.size g.size,fun k hk hn => (g.block k (Nat.lt_of_lt_of_le hk h.size) (fun e => by have:=hr k e.symm;omega)).trans (h.block k hk hn)⟩
theorem Rd.grown {w w1 w2:World} {rb ty:Nat} {tail:List Value} {l:List UInt8} {row:Option Nat} (h:Rd w w1 rb ty tail l) (g:w1.grownBy w2 row) (hr:∀ k,row = some k → w.heap.size ≤ k) (hrb:rb < w.heap.size):Rd w w2 rb ty tail l :=
 ⟨h.rest.keep (g.block rb h.rest.lt (fun e => by have:=hr rb e.symm;omega)),h.turns.grown g hr⟩
theorem own_string {W:World} {B:Nat} {v:Value} {l:List UInt8} (h:W.ownsRow B 5 1 v l.length (Lib.byteCells l)):(convert 166 9 v).run Tryz.prog W = .ok (.string (mk l)) W:=by
 rcases h.2 with ⟨rfl,h0⟩ | ⟨g,cap,cur,rfl,_,hg,_,_,_,ht⟩
 · have:l = []:=List.length_eq_zero_iff.1 h0
   subst this
   exact Lib.run_convert_nil_bytes W 166 9 5 0 Tryz.underlying166 Tryz.underlying5 Tryz.underlying9
 · rw [Nat.mul_one] at ht
   exact run_convert_bytes_back W 166 9 5 ⟨g,0,none⟩ cap l Tryz.underlying166 Tryz.underlying5 Tryz.underlying9 (Lib.bytes_of_row hg ht)
theorem Tryz.info5:(Tryz.prog.info? 5).map (fun i => (i.zero,i.size,i.bytes)) = some (some (.int .u8 0),1,1):=by kernel_rfl
theorem Tryz.info3:(Tryz.prog.info? 3).map (fun i => (i.zero,i.size,i.bytes)) = some (some (.int .i64 0),1,8):=by kernel_rfl
theorem new_one {w:World} {u:Value} {t:TypeId}:∀ j x,[u][j]? = some x → (w.alloc (.cells #[u] t)).cell? ((⟨w.heap.size,0,none⟩:Addr).add j) = some x:=fun j x hj => by
 rw [Addr.add_lit,Nat.zero_add]
 match j with
 | 0 => simp at hj;rw [← hj];simp
 | j + 1 => simp at hj
set_option maxHeartbeats 3200000 in
theorem quoted_any (rb:Nat) (l:List UInt8) (w:World) (hR:RdAt w rb 271 [] l) (hl:l.length ≤ 2 ^ 40) :
 Calls Tryz.prog 284 #[.pointer (some ⟨rb,0,none⟩)] w (REnds w rb 271 [] ((quotedL l).map strP)):=by
 obtain ⟨i0,hi0,hz0,hz1,hz2⟩:=info_parts Tryz.info5
 have hrb:=hR.lt
 have HS:Hid (Calls Tryz.prog 186 #[.pointer (some ⟨rb,0,none⟩),.string (mk [34])] w _):=skip_any rb 271 [] l [34] w hR
 clear hR
 go_enter Tryz.func284,Tryz.ntmps284
 go_wp2_with fail
 refine Calls.mono HS.out ?_
 rintro e w1 ⟨⟨h1,rfl⟩ | ⟨h1,rfl⟩,h2⟩
 · have HQ:Hid (quotedL l = quotedGo 12 [] (Lib.trimPrefix l [34])):=by show _ = _;unfold quotedL;rw [h1];rfl
   have hl2:=trim_len l [34]
   have HR1:Hid (Rd w w1 rb 271 [] (Lib.trimPrefix l [34])):=h2
   clear h1 h2 HS
   generalize Lib.trimPrefix l [34] = l1 at HQ HR1 hl2
   go_wp2_with fail
   go_loopw [3] (fun s wr => ∃ (q:Nat) (sa:Option Addr) (sc:Nat) (acc r:List UInt8),q ≤ 12 ∧ s = .slice sa q sc ∧ Hid (q = acc.length) ∧ r.length ≤ 2 ^ 40 ∧ Hid (quotedL l = quotedGo (12 - q) acc r) ∧ Hid (wr.ownsRow w.heap.size 5 1 (.slice sa q sc) q (Lib.byteCells acc)) ∧ Hid (Rd w wr rb 271 [] r)) (fun s _ => 13 - lenV s)
   case atStart => exact ⟨0,none,0,[],l1,by omega,rfl,rfl,by omega,HQ,World.ownsRow_nil _ _ _ _,HR1⟩
   case round =>
    obtain ⟨q,sa,sc,acc,r,hq,rfl,HA,hr,HG,HO,HR⟩:=hrel
    have HTk:Hid (Calls Tryz.prog 238 #[.pointer (some ⟨rb,0,none⟩),.string (mk [34])] wr _):=took_any rb 271 [] r [34] wr HR.out.rest
    cases hp:Lib.hasPrefix r [34] with
    | true =>
     have HG2:Hid (quotedL l = some (acc,Lib.trimPrefix r [34])):=by
      show _ = _
      rw [HG.out,quotedGo_yes _ _ hp]
     rw [hp] at HTk
     go_wp2_with fail
     refine Calls.mono HTk.out ?_
     rintro e w2 ⟨rfl,ht⟩
     have hO2:w2.ownsRow w.heap.size 5 1 (.slice sa q sc) q (Lib.byteCells acc):=own_turn HO.out fun k hk hkl => ht.turns.block k hkl (fun e => by have:=(HO.out.lt k hk).1;omega)
     have hcv:(convert 166 9 (.slice sa q sc)).run Tryz.prog w2 = .ok (.string (mk acc)) w2:=own_string (by rw [← HA.out];exact hO2)
     clear hO2
     go_wp2_with fail
     go_ret
     exact Or.inl ⟨_,_,by rw [HG2.out];rfl,rfl,HR.out.trans ht⟩
    | false =>
     rw [hp,trim_no hp] at HTk
     by_cases h12:q < 12
     · have hsub:12 - q = (11 - q) + 1:=by omega
       go_wp2_with (first | (go_at_call 238;refine Calls.mono HTk.out ?_;rintro e w2 ⟨rfl,ht⟩) | (go_at_call 183;refine (needS_yes _ _ (by simp <;> omega)).mono ?_;rintro e w6 ⟨rfl,rfl⟩))
       refine (quotedByte_any rb r w2 ht.rest (by omega)).mono ?_
       rintro e w3 (⟨v,l3,hv,rfl,ht3⟩ | ⟨hn,rfl,ht3⟩)
       · cases hd:quotedByteL r with
         | none => rw [hd] at hv;cases hv
         | some x =>
          obtain ⟨b,r'⟩:=x
          rw [hd] at hv
          have HG2:Hid (quotedL l = quotedGo (11 - q) (acc ++ [b]) r'):=by
           show _ = _
           rw [HG.out,hsub,quotedGo_some _ _ hp hd]
          simp [bytP] at hv
          obtain ⟨rfl,rfl⟩:=hv
          have hr':=quotedByteL_len hd
          have HR3:Hid (Rd w w3 rb 271 [] r'):=(HR.out.trans ht).trans ht3
          have HO3:Hid (w3.ownsRow w.heap.size 5 1 (.slice sa q sc) q (Lib.byteCells acc)):=own_turn HO.out fun k hk hkl => (ht.trans ht3).turns.block k hkl (fun e => by have:=(HO.out.lt k hk).1;omega)
          have hs3:w.heap.size ≤ w3.heap.size:=HR3.out.turns.size
          clear hd ht ht3
          go_wp2_with (at_builtin;refine wpList_append_own_at _ rfl _ _ 166 rfl w.heap.size 5 i0 _ 1 1 Tryz.underlying166 hi0 hz0 hz1 hz2 rfl (by decide) _ _ _ rfl (HO3.out.alloc _) ⟨w3.heap.size,0,none⟩ 1 1 [.int .u8 b.toNat] rfl rfl new_one (fun u hu => by simp at hu;rw [hu];rfl) (by unfold maxLen;omega) (by omega) (by simp;omega) ?_;intro v' w6 hown6 hgrow6 _ _;obtain ⟨sa',sc',rfl⟩:=own_form hown6;have HO6:Hid (w6.ownsRow w.heap.size 5 1 (.slice sa' (q + 1) sc') (q + 1) (Lib.byteCells acc ++ [.int .u8 b.toNat])):=hown6;have HR6:Hid (Rd w w6 rb 271 [] r'):=(HR3.out.below ((Below.refl _ _).alloc (Nat.le_refl _) _)).grown hgrow6 (fun k hk => (HO3.out.lt k hk).1) hrb;clear hown6 hgrow6)
          go_roundw
          case rel =>
           refine ⟨q + 1,sa',sc',acc ++ [b],r',by omega,rfl,?_,by omega,?_,?_,HR6⟩
           · show _ = _;rw [HA.out];simp
           · show _ = _;rw [HG2.out,show 12 - (q + 1) = 11 - q by omega]
           · have e:Lib.byteCells (acc ++ [b]) = Lib.byteCells acc ++ [.int .u8 b.toNat]:=by simp [Lib.byteCells]
             rw [e];exact HO6
          case measure => simp [lenV];omega
       · have hnn:quotedByteL r = none:=by
          cases h2:quotedByteL r with
          | none => rfl
          | some y => rw [h2] at hn;cases hn
         have HG2:Hid (quotedL l = none):=by
          show _ = _
          rw [HG.out,hsub,quotedGo_none _ _ hp hnn]
         go_wp2_with fail
         exact ⟨rfl,Or.inr ⟨by rw [HG2.out];rfl,rfl,(HR.out.trans ht).turns.trans' ht3⟩⟩
     · have HG2:Hid (quotedL l = none):=by
        show _ = _
        rw [HG.out,show 12 - q = 0 by omega,quotedGo_end _ hp]
       go_wp2_with (first | (go_at_call 238;refine Calls.mono HTk.out ?_;rintro e w2 ⟨rfl,ht⟩) | (go_at_call 183;refine (needS_no _ _ (by simp <;> omega)).mono ?_;rintro e w6 ⟨rfl,rfl⟩))
       exact ⟨rfl,Or.inr ⟨by rw [HG2.out];rfl,rfl,(HR.out.trans ht).turns⟩⟩
 · have HQ:Hid (quotedL l = none):=by show _ = _;unfold quotedL;rw [h1];rfl
   go_wp2_with fail
   exact ⟨rfl,Or.inr ⟨by rw [HQ.out];rfl,rfl,h2.turns⟩⟩
def LEnds (w:World) (rb ty:Nat) (tail:List Value) (r:Option (List Int × List UInt8)) (e:Ending) (w':World):Prop :=
 (∃ xs l sa sc,r = some (xs,l) ∧ e = .returned (.slice sa xs.length sc) ∧ Rd w w' rb ty tail l ∧ w'.ownsRow w.heap.size 3 1 (.slice sa xs.length sc) xs.length (xs.map (Value.int .i64))) ∨ (r = none ∧ e = .panicked wrongS ∧ Turns w w' (fun k => k = rb))
set_option maxHeartbeats 3200000 in
set_option maxRecDepth 20000 in
theorem list_any (rb:Nat) (l:List UInt8) (w:World) (hR:RdAt w rb 271 [] l) (hl:l.length ≤ 2 ^ 40) (hG:Glob w) (hrb8:11 ≤ rb) :
 Calls Tryz.prog 286 #[.pointer (some ⟨rb,0,none⟩)] w (LEnds w rb 271 [] (listL l)):=by
 obtain ⟨i0,hi0,hz0,hz1,hz2⟩:=info_parts Tryz.info3
 have hrb:=hR.lt
 have HGl:Hid (Glob w):=hG
 have HS:Hid (Calls Tryz.prog 186 #[.pointer (some ⟨rb,0,none⟩),.string (mk [91])] w _):=skip_any rb 271 [] l [91] w hR
 clear hR hG
 go_enter Tryz.func286,Tryz.ntmps286
 go_wp2_with fail
 refine Calls.mono HS.out ?_
 rintro e w1 ⟨⟨h1,rfl⟩ | ⟨h1,rfl⟩,h2⟩
 · have HQ:Hid (listL l = listGo 4 [] (Lib.trimPrefix l [91])):=by show _ = _;unfold listL;rw [h1];rfl
   have hl2:=trim_len l [91]
   have HR1:Hid (Rd w w1 rb 271 [] (Lib.trimPrefix l [91])):=h2
   clear h1 h2 HS
   generalize Lib.trimPrefix l [91] = l1 at HQ HR1 hl2
   go_wp2_with fail
   go_loopw [3] (fun s wr => ∃ (q:Nat) (sa:Option Addr) (sc:Nat) (acc:List Int) (r:List UInt8),q ≤ 4 ∧ s = .slice sa q sc ∧ Hid (q = acc.length) ∧ r.length ≤ 2 ^ 40 ∧ Hid (listL l = listGo (4 - q) acc r) ∧ Hid (wr.ownsRow w.heap.size 3 1 (.slice sa q sc) q (acc.map (Value.int .i64))) ∧ Hid (Rd w wr rb 271 [] r)) (fun s _ => 5 - lenV s)
   case atStart => exact ⟨0,none,0,[],l1,by omega,rfl,rfl,by omega,HQ,World.ownsRow_nil _ _ _ _,HR1⟩
   case round =>
    obtain ⟨q,sa,sc,acc,r,hq,rfl,HA,hr,HG,HO,HR⟩:=hrel
    have HTk:Hid (Calls Tryz.prog 238 #[.pointer (some ⟨rb,0,none⟩),.string (mk [93])] wr _):=took_any rb 271 [] r [93] wr HR.out.rest
    cases hp:Lib.hasPrefix r [93] with
    | true =>
     have HG2:Hid (listL l = some (acc,Lib.trimPrefix r [93])):=by
      show _ = _
      rw [HG.out,listGo_yes _ _ hp]
     rw [hp] at HTk
     go_wp2_with (go_at_call 238;refine Calls.mono HTk.out ?_;rintro e w2 ⟨rfl,ht⟩)
     go_ret
     have hO2:w2.ownsRow w.heap.size 3 1 (.slice sa q sc) q (acc.map (Value.int .i64)):=own_turn HO.out fun k hk hkl => ht.turns.block k hkl (fun e => by have:=(HO.out.lt k hk).1;omega)
     exact Or.inl ⟨acc,_,sa,sc,HG2.out,by rw [← HA.out];rfl,HR.out.trans ht,by rw [← HA.out];exact hO2⟩
    | false =>
     rw [hp,trim_no hp] at HTk
     by_cases h4:q < 4
     · have hsub:4 - q = (3 - q) + 1:=by omega
       have HDec:Hid (∀ w2 r2,Rd w w2 rb 271 [] r2 → r2.length ≤ 2 ^ 40 → (acc = [] ∧ r2 = r ∨ acc ≠ [] ∧ Lib.hasPrefix r [44] = true ∧ r2 = Lib.trimPrefix r [44]) → Calls Tryz.prog 282 #[.pointer (some ⟨rb,0,none⟩)] w2 fun e w3 => (∃ x r3,listL l = listGo (3 - q) (acc ++ [x]) r3 ∧ r3.length ≤ 2 ^ 40 ∧ e = .returned (.int .i64 x) ∧ Rd w w3 rb 271 [] r3 ∧ Turns w2 w3 (fun k => k = rb)) ∨ (listL l = none ∧ e = .panicked wrongS ∧ Turns w w3 (fun k => k = rb))):=fun w2 r2 h2 hl2 hc => by
        refine (decimal_any rb r2 w2 h2.rest hl2 (HGl.out.turns h2.turns (fun k hk => by subst hk;exact hrb8)) hrb8).mono ?_
        rintro e w3 (⟨v,l3,hv,rfl,ht3⟩ | ⟨hn,rfl,ht3⟩)
        · cases hd:decimalL r2 with
          | none => rw [hd] at hv;cases hv
          | some y =>
           obtain ⟨x,r3⟩:=y
           rw [hd] at hv
           simp [intP] at hv
           obtain ⟨rfl,rfl⟩:=hv
           have:=(decimalL_len hd).1
           exact Or.inl ⟨x,r3,by rw [HG.out,hsub,listGo_some _ _ hp hc hd],by omega,rfl,h2.trans ht3,ht3.turns⟩
        · refine Or.inr ⟨?_,rfl,h2.turns.trans' ht3⟩
          have hnn:decimalL r2 = none:=by
           cases hd:decimalL r2 with
           | none => rfl
           | some y => rw [hd] at hn;cases hn
          rw [HG.out,hsub,listGo_none _ _ hp hc hnn]
       by_cases h0:q = 0
       · have HAc:Hid (acc = []):=List.length_eq_zero_iff.1 (by rw [← HA.out];exact h0)
         have hg1:¬ (0 < q):=by omega
         clear h0
         go_wp2_with fail
         refine Calls.mono HTk.out ?_
         rintro e w2 ⟨rfl,ht⟩
         go_wp2_with fail
         refine (needS_yes _ _ (by simp <;> omega)).mono ?_
         rintro e w6 ⟨rfl,rfl⟩
         go_wp2_with fail
         have HO2:Hid (w2.ownsRow w.heap.size 3 1 (.slice sa q sc) q (acc.map (Value.int .i64))):=own_turn HO.out fun k hk hkl => ht.turns.block k hkl (fun e => by have:=(HO.out.lt k hk).1;omega)
         refine (HDec.out w2 r (HR.out.trans ht) hr (Or.inl ⟨HAc.out,rfl⟩)).mono ?_
         clear ht
         rintro e w3 (⟨x,r3,hg3,hr3l,rfl,hr3,ht3⟩ | ⟨hn3,rfl,ht3⟩)
         · have hs3:w.heap.size ≤ w3.heap.size:=hr3.turns.size
           have HR3:Hid (Rd w w3 rb 271 [] r3):=hr3
           have HO3:Hid (w3.ownsRow w.heap.size 3 1 (.slice sa q sc) q (acc.map (Value.int .i64))):=own_turn HO2.out fun k hk hkl => ht3.block k hkl (fun e => by have:=(HO2.out.lt k hk).1;omega)
           have HG3:Hid (listL l = listGo (3 - q) (acc ++ [x]) r3):=hg3
           clear hr3 ht3 hg3
           go_wp2_with (at_builtin;refine wpList_append_own_at _ rfl _ _ 54 rfl w.heap.size 3 i0 _ 1 8 Tryz.underlying54 hi0 hz0 hz1 hz2 rfl (by decide) _ _ _ rfl (HO3.out.alloc _) ⟨w3.heap.size,0,none⟩ 1 1 [.int .i64 x] rfl rfl new_one (fun u hu => by simp at hu;rw [hu];rfl) (by unfold maxLen;omega) (by omega) (by simp;omega) ?_;intro v' w6 hown6 hgrow6 _ _;obtain ⟨sa',sc',rfl⟩:=own_form hown6;have HO6:Hid (w6.ownsRow w.heap.size 3 1 (.slice sa' (q + 1) sc') (q + 1) (acc.map (Value.int .i64) ++ [.int .i64 x])):=hown6;have HR6:Hid (Rd w w6 rb 271 [] r3):=(HR3.out.below ((Below.refl _ _).alloc (Nat.le_refl _) _)).grown hgrow6 (fun k hk => (HO3.out.lt k hk).1) hrb;clear hown6 hgrow6)
           go_roundw
           case rel =>
            refine ⟨q + 1,sa',sc',acc ++ [x],r3,by omega,rfl,?_,hr3l,?_,?_,HR6⟩
            · show _ = _;rw [HA.out];simp
            · show _ = _;rw [HG3.out,show 4 - (q + 1) = 3 - q by omega]
            · have e:(acc ++ [x]).map (Value.int .i64) = acc.map (Value.int .i64) ++ [.int .i64 x]:=by simp
              rw [e];exact HO6
           case measure => simp [lenV];omega
         · go_wp2_with fail
           exact ⟨rfl,Or.inr ⟨hn3,rfl,ht3⟩⟩
       · have HAc:Hid (acc ≠ []):=fun e => h0 (by rw [HA.out,e];rfl)
         have hg1:0 < q:=by omega
         have hrl:=trim_len r [44]
         clear h0
         go_wp2_with fail
         refine Calls.mono HTk.out ?_
         rintro e w2 ⟨rfl,ht⟩
         go_wp2_with fail
         refine (needS_yes _ _ (by simp <;> omega)).mono ?_
         rintro e w6 ⟨rfl,rfl⟩
         go_wp2_with fail
         refine (skip_any rb 271 [] r [44] w2 ht.rest).mono ?_
         rintro e w9 ⟨⟨hc1,rfl⟩ | ⟨hc1,rfl⟩,hc2⟩
         · have HO2:Hid (w9.ownsRow w.heap.size 3 1 (.slice sa q sc) q (acc.map (Value.int .i64))):=own_turn HO.out fun k hk hkl => (ht.trans hc2).turns.block k hkl (fun e => by have:=(HO.out.lt k hk).1;omega)
           have HC:Hid (Calls Tryz.prog 282 #[.pointer (some ⟨rb,0,none⟩)] w9 _):=HDec.out w9 (Lib.trimPrefix r [44]) ((HR.out.trans ht).trans hc2) (by omega) (Or.inr ⟨HAc.out,hc1,rfl⟩)
           clear ht hc2 hc1
           go_wp2_with fail
           refine Calls.mono HC.out ?_
           rintro e w3 (⟨x,r3,hg3,hr3l,rfl,hr3,ht3⟩ | ⟨hn3,rfl,ht3⟩)
           · have hs3:w.heap.size ≤ w3.heap.size:=hr3.turns.size
             have HR3:Hid (Rd w w3 rb 271 [] r3):=hr3
             have HO3:Hid (w3.ownsRow w.heap.size 3 1 (.slice sa q sc) q (acc.map (Value.int .i64))):=own_turn HO2.out fun k hk hkl => ht3.block k hkl (fun e => by have:=(HO2.out.lt k hk).1;omega)
             have HG3:Hid (listL l = listGo (3 - q) (acc ++ [x]) r3):=hg3
             clear hr3 ht3 hg3
             go_wp2_with (at_builtin;refine wpList_append_own_at _ rfl _ _ 54 rfl w.heap.size 3 i0 _ 1 8 Tryz.underlying54 hi0 hz0 hz1 hz2 rfl (by decide) _ _ _ rfl (HO3.out.alloc _) ⟨w3.heap.size,0,none⟩ 1 1 [.int .i64 x] rfl rfl new_one (fun u hu => by simp at hu;rw [hu];rfl) (by unfold maxLen;omega) (by omega) (by simp;omega) ?_;intro v' w6 hown6 hgrow6 _ _;obtain ⟨sa',sc',rfl⟩:=own_form hown6;have HO6:Hid (w6.ownsRow w.heap.size 3 1 (.slice sa' (q + 1) sc') (q + 1) (acc.map (Value.int .i64) ++ [.int .i64 x])):=hown6;have HR6:Hid (Rd w w6 rb 271 [] r3):=(HR3.out.below ((Below.refl _ _).alloc (Nat.le_refl _) _)).grown hgrow6 (fun k hk => (HO3.out.lt k hk).1) hrb;clear hown6 hgrow6)
             go_roundw
             case rel =>
              refine ⟨q + 1,sa',sc',acc ++ [x],r3,by omega,rfl,?_,hr3l,?_,?_,HR6⟩
              · show _ = _;rw [HA.out];simp
              · show _ = _;rw [HG3.out,show 4 - (q + 1) = 3 - q by omega]
              · have e:(acc ++ [x]).map (Value.int .i64) = acc.map (Value.int .i64) ++ [.int .i64 x]:=by simp
                rw [e];exact HO6
             case measure => simp [lenV];omega
           · go_wp2_with fail
             exact ⟨rfl,Or.inr ⟨hn3,rfl,ht3⟩⟩
         · go_wp2_with fail
           exact ⟨rfl,Or.inr ⟨by rw [HG.out,hsub,listGo_comma _ _ hp HAc.out hc1],rfl,((HR.out.trans ht).trans hc2).turns⟩⟩
     · have HG2:Hid (listL l = none):=by
        show _ = _
        rw [HG.out,show 4 - q = 0 by omega,listGo_end _ hp]
       go_wp2_with (first | (go_at_call 238;refine Calls.mono HTk.out ?_;rintro e w2 ⟨rfl,ht⟩) | (go_at_call 183;refine (needS_no _ _ (by simp <;> omega)).mono ?_;rintro e w6 ⟨rfl,rfl⟩))
       exact ⟨rfl,Or.inr ⟨HG2.out,rfl,(HR.out.trans ht).turns⟩⟩
 · have HQ:Hid (listL l = none):=by show _ = _;unfold listL;rw [h1];rfl
   go_wp2_with fail
   exact ⟨rfl,Or.inr ⟨HQ.out,rfl,h2.turns⟩⟩
end Go.Proofs.YthkbeaffkcfgiabGreatDoor
