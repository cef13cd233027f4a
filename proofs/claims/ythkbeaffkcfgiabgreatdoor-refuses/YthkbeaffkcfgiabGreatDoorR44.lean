import Derived.Test.YthkbeaffkcfgiabGreatDoorR43
import Derived.Test.YthkbeaffkcfgiabGreatDoorR40
set_option linter.unusedSimpArgs false
set_option linter.unusedVariables false
namespace Go.Proofs.YthkbeaffkcfgiabGreatDoor
open Go.RowKit
theorem CmAt.sub {w0 w:World} {own0:Nat → Nat} {b g lc N k:Nat} {X Y:List (Nat × Obj)} (h:CmAt w0 own0 b g lc N X k w) (hs:∀ x ∈ Y,x ∈ X):CmAt w0 own0 b g lc N Y k w:=by
 obtain ⟨own,lv,h1,h2,h3⟩:=h
 exact ⟨own,lv,h1,h2,fun x hx => h3 x (hs x hx)⟩
theorem CmAt.lt {w0 w:World} {own0:Nat → Nat} {b g lc N k:Nat} {X:List (Nat × Obj)} (h:CmAt w0 own0 b g lc N X k w) {q:Nat} {ob:Obj} (hq:(q,ob) ∈ X):q < w.heap.size:=by
 obtain ⟨_,_,_,_,h3⟩:=h
 exact (h3 _ hq).1
theorem v9_A (b A A' B D j:Nat) (h1:j ≠ 89) (h2:j ≠ 90):v9 b A' B D j = v9 b A B D j:=by
 have e:((v9L b A' B D).set 89 undef).set 90 undef = ((v9L b A B D).set 89 undef).set 90 undef:=rfl
 have:=congrArg (fun L => L.getD j undef) e
 simpa [v9,List.getD_eq_getElem?_getD,List.getElem?_set,Ne.symm h1,Ne.symm h2] using this
theorem v9_B (b A B B' D j:Nat) (h1:j ≠ 94) (h2:j ≠ 95):v9 b A B' D j = v9 b A B D j:=by
 have e:((v9L b A B' D).set 94 undef).set 95 undef = ((v9L b A B D).set 94 undef).set 95 undef:=rfl
 have:=congrArg (fun L => L.getD j undef) e
 simpa [v9,List.getD_eq_getElem?_getD,List.getElem?_set,Ne.symm h1,Ne.symm h2] using this
theorem v9_D (b A B D D' j:Nat) (h1:j ≠ 109) (h2:j ≠ 110):v9 b A B D' j = v9 b A B D j:=by
 have e:((v9L b A B D').set 109 undef).set 110 undef = ((v9L b A B D).set 109 undef).set 110 undef:=rfl
 have:=congrArg (fun L => L.getD j undef) e
 simpa [v9,List.getD_eq_getElem?_getD,List.getElem?_set,Ne.symm h1,Ne.symm h2] using this
section
variable {ops:Array Oper} {Q:Exit → Act → World → Prop} {b g lc N c A B D:Nat} {w0 w:World} {own0:Nat → Nat} {X:List (Nat × Obj)} {a0 a:Act} {l:Array Bool}
theorem pre_keep (h:R9 b g lc N w0 own0 X a0 c A B D l a w) (hl:l.size = 111) {i:Nat} (hi:i < 111) (hq:((List.range 30).all fun j => callIx j != i) = true):∀ j,j < 30 → ((l.setIfInBounds i true).getD (callIx j) false = true ↔ j < c):=fun j hj => by
 have:=List.all_eq_true.1 hq j (List.mem_range.2 hj)
 simp only [bne_iff_ne,ne_eq] at this
 rw [lget_set l i _ (by omega),if_neg this]
 exact h.pre j hj
theorem false_of {x:Bool} {p:Prop} (h:x = false) (h':x = true):p:=by rw [h] at h';cases h'
theorem i9_89 (hR:IsReg 9 ops) (h:R9 b g lc N w0 own0 X a0 c A B D l a w) (hl:l.size = 111) (hr:89 ∈ Region.ready .any ops l):wpOp Tryz.prog ops Q 89 (I9 b g lc N w0 own0 X a0 (l.setIfInBounds 89 true)) a w:=by
 obtain ⟨_,o,ho,_⟩:=mem_ready.1 hr
 have hn:=ready_not hr
 obtain ⟨p1,p2⟩:=op_plain (plain9 hR) (by decide) ho
 have hop:OpIs 9 89 (Op.buildSlice 54 5 #[(0,Operand.const (Value.int IntKind.i64 1)),(1,Operand.const (Value.int IntKind.i64 2)),(2,Operand.const (Value.int IntKind.i64 3)),(3,Operand.const (Value.int IntKind.i64 4)),(4,Operand.const (Value.int IntKind.i64 5))]):=by unfold OpIs;kernel_rfl
 refine op_value ho p2 (run_slice5 (hop.tell hR ho)) ?_
 rw [p1]
 have hn2:∀ j,l.getD j false = true → j ≠ 89 ∧ j ≠ 90:=fun j hj => ⟨fun e => by subst e;exact false_of hn hj,fun e => by subst e;exact false_of hn (h.dA hj)⟩
 refine ⟨c,w.heap.size,B,D,h.more hl (by decide) _ rfl (fun j _ hj => v9_A _ _ _ _ _ _ (hn2 j hj).1 (hn2 j hj).2) (pre_keep h hl (by decide) (by decide +kernel)) (fun e => absurd e (by decide)) (fun e => absurd e (by decide)) (fun e => absurd e (by decide)) ?_ h.cle⟩
 refine (h.cm.alloc #[.int .i64 1,.int .i64 2,.int .i64 3,.int .i64 4,.int .i64 5] 3).sub fun x hx => ?_
 unfold keep9 at hx ⊢
 rw [lget_set l 89 89 (by omega),lget_set l 89 94 (by omega),lget_set l 89 109 (by omega),if_pos (rfl:(89:Nat) = 89),if_pos rfl,if_neg (show ¬(94:Nat) = 89 by decide),if_neg (show ¬(109:Nat) = 89 by decide)] at hx
 rw [hn]
 simpa [objA] using hx
theorem i9_94 (hR:IsReg 9 ops) (h:R9 b g lc N w0 own0 X a0 c A B D l a w) (hl:l.size = 111) (hr:94 ∈ Region.ready .any ops l):wpOp Tryz.prog ops Q 94 (I9 b g lc N w0 own0 X a0 (l.setIfInBounds 94 true)) a w:=by
 obtain ⟨_,o,ho,_⟩:=mem_ready.1 hr
 have hn:=ready_not hr
 obtain ⟨p1,p2⟩:=op_plain (plain9 hR) (by decide) ho
 have hop:OpIs 9 94 (Op.buildSlice 54 4 #[(0,Operand.const (Value.int IntKind.i64 1)),(1,Operand.const (Value.int IntKind.i64 2)),(2,Operand.const (Value.int IntKind.i64 3)),(3,Operand.const (Value.int IntKind.i64 4))]):=by unfold OpIs;kernel_rfl
 refine op_value ho p2 (run_slice4 (hop.tell hR ho)) ?_
 rw [p1]
 have hn2:∀ j,l.getD j false = true → j ≠ 94 ∧ j ≠ 95:=fun j hj => ⟨fun e => by subst e;exact false_of hn hj,fun e => by subst e;exact false_of hn (h.dB hj)⟩
 refine ⟨c,A,w.heap.size,D,h.more hl (by decide) _ rfl (fun j _ hj => v9_B _ _ _ _ _ _ (hn2 j hj).1 (hn2 j hj).2) (pre_keep h hl (by decide) (by decide +kernel)) (fun e => absurd e (by decide)) (fun e => absurd e (by decide)) (fun e => absurd e (by decide)) ?_ h.cle⟩
 refine (h.cm.alloc #[.int .i64 1,.int .i64 2,.int .i64 3,.int .i64 4] 3).sub fun x hx => ?_
 unfold keep9 at hx ⊢
 rw [lget_set l 94 89 (by omega),lget_set l 94 94 (by omega),lget_set l 94 109 (by omega),if_pos (rfl:(94:Nat) = 94),if_pos rfl,if_neg (show ¬(89:Nat) = 94 by decide),if_neg (show ¬(109:Nat) = 94 by decide)] at hx
 rw [hn]
 simp only [List.mem_append,List.mem_cons,List.not_mem_nil,or_false,objB,if_false,Bool.false_eq_true] at hx ⊢
 rcases hx with (hx | hx | hx) | hx
 · exact Or.inr (Or.inl (Or.inl hx))
 · exact Or.inl hx
 · exact Or.inr (Or.inl (Or.inr (Or.inr hx)))
 · exact Or.inr (Or.inr hx)
theorem run_slice30 {o:Oper} (hx:∀ j,j < 30 → Sl a (dst9 (callIx j)) (.int .i64 (wantR.getD j 0))) (hop:o.op = Op.buildSlice 74 30 #[(0,Operand.tmp 58),(1,Operand.tmp 61),(2,Operand.tmp 64),(3,Operand.tmp 67),(4,Operand.tmp 70),(5,Operand.tmp 73),(6,Operand.tmp 76),(7,Operand.tmp 80),(8,Operand.tmp 84),(9,Operand.tmp 88),(10,Operand.tmp 92),(11,Operand.tmp 96),(12,Operand.tmp 100),(13,Operand.tmp 103),(14,Operand.tmp 108),(15,Operand.tmp 113),(16,Operand.tmp 117),(17,Operand.tmp 120),(18,Operand.tmp 124),(19,Operand.tmp 128),(20,Operand.tmp 131),(21,Operand.tmp 135),(22,Operand.tmp 139),(23,Operand.tmp 142),(24,Operand.tmp 147),(25,Operand.tmp 152),(26,Operand.tmp 155),(27,Operand.tmp 158),(28,Operand.tmp 161),(29,Operand.tmp 164)]):(execOp a.eval o).run Tryz.prog w = .ok (.value (.slice (some ⟨w.heap.size,0,none⟩) 30 30)) (w.alloc (.cells (wantR.map (Value.int .i64)).toArray 33)):=by
 have s0:a.tmps[58]? = some (.int .i64 3):=hx 0 (by decide)
 have s1:a.tmps[61]? = some (.int .i64 4):=hx 1 (by decide)
 have s2:a.tmps[64]? = some (.int .i64 0):=hx 2 (by decide)
 have s3:a.tmps[67]? = some (.int .i64 5):=hx 3 (by decide)
 have s4:a.tmps[70]? = some (.int .i64 6):=hx 4 (by decide)
 have s5:a.tmps[73]? = some (.int .i64 3):=hx 5 (by decide)
 have s6:a.tmps[76]? = some (.int .i64 4):=hx 6 (by decide)
 have s7:a.tmps[80]? = some (.int .i64 3):=hx 7 (by decide)
 have s8:a.tmps[84]? = some (.int .i64 4):=hx 8 (by decide)
 have s9:a.tmps[88]? = some (.int .i64 6):=hx 9 (by decide)
 have s10:a.tmps[92]? = some (.int .i64 7):=hx 10 (by decide)
 have s11:a.tmps[96]? = some (.int .i64 8):=hx 11 (by decide)
 have s12:a.tmps[100]? = some (.int .i64 0):=hx 12 (by decide)
 have s13:a.tmps[103]? = some (.int .i64 0):=hx 13 (by decide)
 have s14:a.tmps[108]? = some (.int .i64 9):=hx 14 (by decide)
 have s15:a.tmps[113]? = some (.int .i64 0):=hx 15 (by decide)
 have s16:a.tmps[117]? = some (.int .i64 0):=hx 16 (by decide)
 have s17:a.tmps[120]? = some (.int .i64 0):=hx 17 (by decide)
 have s18:a.tmps[124]? = some (.int .i64 8):=hx 18 (by decide)
 have s19:a.tmps[128]? = some (.int .i64 0):=hx 19 (by decide)
 have s20:a.tmps[131]? = some (.int .i64 0):=hx 20 (by decide)
 have s21:a.tmps[135]? = some (.int .i64 8):=hx 21 (by decide)
 have s22:a.tmps[139]? = some (.int .i64 0):=hx 22 (by decide)
 have s23:a.tmps[142]? = some (.int .i64 0):=hx 23 (by decide)
 have s24:a.tmps[147]? = some (.int .i64 8):=hx 24 (by decide)
 have s25:a.tmps[152]? = some (.int .i64 0):=hx 25 (by decide)
 have s26:a.tmps[155]? = some (.int .i64 3):=hx 26 (by decide)
 have s27:a.tmps[158]? = some (.int .i64 3):=hx 27 (by decide)
 have s28:a.tmps[161]? = some (.int .i64 3):=hx 28 (by decide)
 have s29:a.tmps[164]? = some (.int .i64 3):=hx 29 (by decide)
 simp only [execOp,hop]
 go_simp
 rfl
theorem i9_109 (hR:IsReg 9 ops) (h:R9 b g lc N w0 own0 X a0 c A B D l a w) (hl:l.size = 111) (hr:109 ∈ Region.ready .any ops l):wpOp Tryz.prog ops Q 109 (I9 b g lc N w0 own0 X a0 (l.setIfInBounds 109 true)) a w:=by
 obtain ⟨_,o,ho,_⟩:=mem_ready.1 hr
 have hn:=ready_not hr
 obtain ⟨p1,p2⟩:=op_plain (plain9 hR) (by decide) ho
 have hop:OpIs 9 109 (Op.buildSlice 74 30 #[(0,Operand.tmp 58),(1,Operand.tmp 61),(2,Operand.tmp 64),(3,Operand.tmp 67),(4,Operand.tmp 70),(5,Operand.tmp 73),(6,Operand.tmp 76),(7,Operand.tmp 80),(8,Operand.tmp 84),(9,Operand.tmp 88),(10,Operand.tmp 92),(11,Operand.tmp 96),(12,Operand.tmp 100),(13,Operand.tmp 103),(14,Operand.tmp 108),(15,Operand.tmp 113),(16,Operand.tmp 117),(17,Operand.tmp 120),(18,Operand.tmp 124),(19,Operand.tmp 128),(20,Operand.tmp 131),(21,Operand.tmp 135),(22,Operand.tmp 139),(23,Operand.tmp 142),(24,Operand.tmp 147),(25,Operand.tmp 152),(26,Operand.tmp 155),(27,Operand.tmp 158),(28,Operand.tmp 161),(29,Operand.tmp 164)]):=by unfold OpIs;kernel_rfl
 have hall:((List.range 30).all fun j => depB ops 109 (callIx j)) = true:=hR.check (fun ops => (List.range 30).all fun j => depB ops 109 (callIx j)) (by kernel_rfl)
 have hwv:∀ j,j < 30 → v9 b A B D (callIx j) = .int .i64 (wantR.getD j 0):=fun j hj => by
  have e:(List.range 30).map (fun j => v9 b A B D (callIx j)) = (List.range 30).map (fun j => Value.int .i64 (wantR.getD j 0)):=by rfl
  have:=congrArg (fun L => L[j]?) e
  simpa [hj] using this
 have hx:∀ j,j < 30 → Sl a (dst9 (callIx j)) (.int .i64 (wantR.getD j 0)):=fun j hj => by
  rw [← hwv j hj]
  have:=(call_lt j hj).1
  exact h.vals _ (by omega) (dep_listed hr (List.all_eq_true.1 hall j (List.mem_range.2 hj)))
 refine op_value ho p2 (run_slice30 hx (hop.tell hR ho)) ?_
 rw [p1]
 have hn2:∀ j,l.getD j false = true → j ≠ 109 ∧ j ≠ 110:=fun j hj => ⟨fun e => by subst e;exact false_of hn hj,fun e => by subst e;exact false_of hn (h.dD hj)⟩
 refine ⟨c,A,B,w.heap.size,h.more hl (by decide) _ rfl (fun j _ hj => v9_D _ _ _ _ _ _ (hn2 j hj).1 (hn2 j hj).2) (pre_keep h hl (by decide) (by decide +kernel)) (fun e => absurd e (by decide)) (fun e => absurd e (by decide)) (fun e => absurd e (by decide)) ?_ h.cle⟩
 refine (h.cm.alloc (wantR.map (Value.int .i64)).toArray 33).sub fun x hx => ?_
 unfold keep9 at hx ⊢
 rw [lget_set l 109 89 (by omega),lget_set l 109 94 (by omega),lget_set l 109 109 (by omega),if_pos (rfl:(109:Nat) = 109),if_pos rfl,if_neg (show ¬(89:Nat) = 109 by decide),if_neg (show ¬(94:Nat) = 109 by decide)] at hx
 rw [hn]
 simp only [List.mem_append,List.mem_cons,List.not_mem_nil,or_false,objD,if_false,Bool.false_eq_true] at hx ⊢
 rcases hx with (hx | hx | hx) | hx
 · exact Or.inr (Or.inl (Or.inl hx))
 · exact Or.inr (Or.inl (Or.inr hx))
 · exact Or.inl hx
 · exact Or.inr (Or.inr hx)
theorem i9_90 (hR:IsReg 9 ops) (h:R9 b g lc N w0 own0 X a0 c A B D l a w) (hl:l.size = 111) (hr:90 ∈ Region.ready .any ops l):wpOp Tryz.prog ops Q 90 (I9 b g lc N w0 own0 X a0 (l.setIfInBounds 90 true)) a w:=by
 have hd:DepIs 9 90 89:=by unfold DepIs;kernel_rfl
 have hop:OpIs 9 90 (Op.build 56 #[(0,Operand.const (Value.int IntKind.i64 5)),(4,Operand.tmp 145)]):=by unfold OpIs;kernel_rfl
 have hq:=hd.listed hR hr
 exact pure9 hR h hl hr (by decide) (by decide +kernel) (by decide) (by decide) (by decide) (fun _ => hq) (fun e => absurd e (by decide)) (fun e => absurd e (by decide)) fun o ho => run_build56_l 5 145 (some ⟨A,0,none⟩) 5 5 (h.vals 89 (by decide) hq) (hop.tell hR ho)
theorem i9_95 (hR:IsReg 9 ops) (h:R9 b g lc N w0 own0 X a0 c A B D l a w) (hl:l.size = 111) (hr:95 ∈ Region.ready .any ops l):wpOp Tryz.prog ops Q 95 (I9 b g lc N w0 own0 X a0 (l.setIfInBounds 95 true)) a w:=by
 have hd:DepIs 9 95 94:=by unfold DepIs;kernel_rfl
 have hop:OpIs 9 95 (Op.build 56 #[(0,Operand.const (Value.int IntKind.i64 5)),(4,Operand.tmp 150)]):=by unfold OpIs;kernel_rfl
 have hq:=hd.listed hR hr
 exact pure9 hR h hl hr (by decide) (by decide +kernel) (by decide) (by decide) (by decide) (fun e => absurd e (by decide)) (fun _ => hq) (fun e => absurd e (by decide)) fun o ho => run_build56_l 5 150 (some ⟨B,0,none⟩) 4 4 (h.vals 94 (by decide) hq) (hop.tell hR ho)
theorem i9_110 (hR:IsReg 9 ops) (h:R9 b g lc N w0 own0 X a0 c A B D l a w) (hl:l.size = 111) (hr:110 ∈ Region.ready .any ops l):wpOp Tryz.prog ops Q 110 (I9 b g lc N w0 own0 X a0 (l.setIfInBounds 110 true)) a w:=by
 have hd:DepIs 9 110 109:=by unfold DepIs;kernel_rfl
 have hop:OpIs 9 110 (Op.assign (Operand.tmp 165)):=by unfold OpIs;kernel_rfl
 have hq:=hd.listed hR hr
 exact pure9 hR h hl hr (by decide) (by decide +kernel) (by decide) (by decide) (by decide) (fun e => absurd e (by decide)) (fun e => absurd e (by decide)) (fun _ => hq) fun o ho => by
  have e:a.eval (.tmp 165) = v9 b A B D 109:=(h.vals 109 (by decide) hq).eval
  rw [run_assign _ (hop.tell hR ho),e]
  rfl
end
def St9 (ops:Array Oper) (Q:Exit → Act → World → Prop) (b g lc N:Nat) (w0:World) (own0:Nat → Nat) (X:List (Nat × Obj)) (a0:Act) (i:Nat):Prop:=∀ (c A B D:Nat) (l:Array Bool) (a:Act) (w:World),R9 b g lc N w0 own0 X a0 c A B D l a w → l.size = 111 → i ∈ Region.ready .any ops l → wpOp Tryz.prog ops Q i (I9 b g lc N w0 own0 X a0 (l.setIfInBounds i true)) a w
section
variable {ops:Array Oper} {Q:Exit → Act → World → Prop} {b g lc N c A B D:Nat} {w0 w:World} {own0:Nat → Nat} {X:List (Nat × Obj)} {a0 a:Act} {l:Array Bool}
theorem ints5 (h:R9 b g lc N w0 own0 X a0 c A B D l a w) (hq:l.getD 90 false = true):IntsAt w (.slice (some ⟨A,0,none⟩) 5 5) [1,2,3,4,5]:=by
 have hm:(A,objA) ∈ keep9 l A B D ++ X:=by
  unfold keep9
  rw [h.dA hq]
  simp
 have hh:=h.cm.has hm
 refine Or.inr ⟨A,5,rfl,h.cm.lt hm,fun j hj => ?_⟩
 match j,hj with
 | 0,_ => exact cell_at hh rfl
 | 1,_ => exact cell_at hh rfl
 | 2,_ => exact cell_at hh rfl
 | 3,_ => exact cell_at hh rfl
 | 4,_ => exact cell_at hh rfl
 | j + 5,hj => exact absurd hj (by simp)
theorem ints4 (h:R9 b g lc N w0 own0 X a0 c A B D l a w) (hq:l.getD 95 false = true):IntsAt w (.slice (some ⟨B,0,none⟩) 4 4) [1,2,3,4]:=by
 have hm:(B,objB) ∈ keep9 l A B D ++ X:=by
  unfold keep9
  rw [h.dB hq]
  simp
 have hh:=h.cm.has hm
 refine Or.inr ⟨B,4,rfl,h.cm.lt hm,fun j hj => ?_⟩
 match j,hj with
 | 0,_ => exact cell_at hh rfl
 | 1,_ => exact cell_at hh rfl
 | 2,_ => exact cell_at hh rfl
 | 3,_ => exact cell_at hh rfl
 | j + 4,hj => exact absurd hj (by simp)
theorem i9_0 (hR:IsReg 9 ops) (E:E9 b X a0):St9 ops Q b g lc N w0 own0 X a0 0:=fun c A B D l a w h hl hr => move9 hR E h hl hr (by decide +kernel) (by unfold OpIs;kernel_rfl) rfl
theorem i9_1 (hR:IsReg 9 ops) (E:E9 b X a0):St9 ops Q b g lc N w0 own0 X a0 1:=fun c A B D l a w h hl hr => load9 hR h hl hr (by decide +kernel) 5 2 1 (by decide) E.s5 (by unfold OpIs;kernel_rfl) rfl
theorem i9_2 (hR:IsReg 9 ops) (hN:N + 31 ≤ 1000) (hN1:1 ≤ N):St9 ops Q b g lc N w0 own0 X a0 2:=fun c A B D l a w h hl hr => c36 hR h hl hN hN1 0 0 1 hr (by decide) (Or.inl rfl) { data:=#[110,111,110,101] } (by unfold OpIs;kernel_rfl) (by unfold DepIs;kernel_rfl) (by unfold DepIs;kernel_rfl) (by decide) (by decide) rfl rfl rfl rfl rfl
theorem i9_3 (hR:IsReg 9 ops) (E:E9 b X a0):St9 ops Q b g lc N w0 own0 X a0 3:=fun c A B D l a w h hl hr => move9 hR E h hl hr (by decide +kernel) (by unfold OpIs;kernel_rfl) rfl
theorem i9_4 (hR:IsReg 9 ops) (E:E9 b X a0):St9 ops Q b g lc N w0 own0 X a0 4:=fun c A B D l a w h hl hr => load9 hR h hl hr (by decide +kernel) 3 1 1 (by decide) E.s3 (by unfold OpIs;kernel_rfl) rfl
theorem i9_5 (hR:IsReg 9 ops) (hN:N + 31 ≤ 1000) (hN1:1 ≤ N):St9 ops Q b g lc N w0 own0 X a0 5:=fun c A B D l a w h hl hr => c36 hR h hl hN hN1 1 3 4 hr (by decide) (Or.inr (by unfold DepIs;kernel_rfl)) { data:=#[110,111,110,101] } (by unfold OpIs;kernel_rfl) (by unfold DepIs;kernel_rfl) (by unfold DepIs;kernel_rfl) (by decide) (by decide) rfl rfl rfl rfl rfl
theorem i9_6 (hR:IsReg 9 ops) (E:E9 b X a0):St9 ops Q b g lc N w0 own0 X a0 6:=fun c A B D l a w h hl hr => move9 hR E h hl hr (by decide +kernel) (by unfold OpIs;kernel_rfl) rfl
theorem i9_7 (hR:IsReg 9 ops) (E:E9 b X a0):St9 ops Q b g lc N w0 own0 X a0 7:=fun c A B D l a w h hl hr => load9 hR h hl hr (by decide +kernel) 3 1 1 (by decide) E.s3 (by unfold OpIs;kernel_rfl) rfl
theorem i9_8 (hR:IsReg 9 ops) (hN:N + 31 ≤ 1000) (hN1:1 ≤ N):St9 ops Q b g lc N w0 own0 X a0 8:=fun c A B D l a w h hl hr => c36 hR h hl hN hN1 2 6 7 hr (by decide) (Or.inr (by unfold DepIs;kernel_rfl)) { data:=#[112,111,115] } (by unfold OpIs;kernel_rfl) (by unfold DepIs;kernel_rfl) (by unfold DepIs;kernel_rfl) (by decide) (by decide) rfl rfl rfl rfl rfl
theorem i9_9 (hR:IsReg 9 ops) (E:E9 b X a0):St9 ops Q b g lc N w0 own0 X a0 9:=fun c A B D l a w h hl hr => move9 hR E h hl hr (by decide +kernel) (by unfold OpIs;kernel_rfl) rfl
theorem i9_10 (hR:IsReg 9 ops) (E:E9 b X a0):St9 ops Q b g lc N w0 own0 X a0 10:=fun c A B D l a w h hl hr => load9 hR h hl hr (by decide +kernel) 3 1 1 (by decide) E.s3 (by unfold OpIs;kernel_rfl) rfl
theorem i9_11 (hR:IsReg 9 ops) (hN:N + 31 ≤ 1000) (hN1:1 ≤ N):St9 ops Q b g lc N w0 own0 X a0 11:=fun c A B D l a w h hl hr => c36 hR h hl hN hN1 3 9 10 hr (by decide) (Or.inr (by unfold DepIs;kernel_rfl)) { data:=#[112,111,115] } (by unfold OpIs;kernel_rfl) (by unfold DepIs;kernel_rfl) (by unfold DepIs;kernel_rfl) (by decide) (by decide) rfl rfl rfl rfl rfl
theorem i9_12 (hR:IsReg 9 ops) (E:E9 b X a0):St9 ops Q b g lc N w0 own0 X a0 12:=fun c A B D l a w h hl hr => move9 hR E h hl hr (by decide +kernel) (by unfold OpIs;kernel_rfl) rfl
theorem i9_13 (hR:IsReg 9 ops) (E:E9 b X a0):St9 ops Q b g lc N w0 own0 X a0 13:=fun c A B D l a w h hl hr => load9 hR h hl hr (by decide +kernel) 3 1 1 (by decide) E.s3 (by unfold OpIs;kernel_rfl) rfl
theorem i9_14 (hR:IsReg 9 ops):St9 ops Q b g lc N w0 own0 X a0 14:=fun c A B D l a w h hl hr => c37 hR h hl 4 12 13 hr (by decide) (Or.inr (by unfold DepIs;kernel_rfl)) { data:=#[110,97,109,101] } (by unfold OpIs;kernel_rfl) (by unfold DepIs;kernel_rfl) (by unfold DepIs;kernel_rfl) (by decide) (by decide) rfl rfl rfl rfl (by decide) rfl
theorem i9_15 (hR:IsReg 9 ops) (E:E9 b X a0):St9 ops Q b g lc N w0 own0 X a0 15:=fun c A B D l a w h hl hr => move9 hR E h hl hr (by decide +kernel) (by unfold OpIs;kernel_rfl) rfl
theorem i9_16 (hR:IsReg 9 ops) (E:E9 b X a0):St9 ops Q b g lc N w0 own0 X a0 16:=fun c A B D l a w h hl hr => load9 hR h hl hr (by decide +kernel) 7 0 0 (by decide) E.s7 (by unfold OpIs;kernel_rfl) rfl
theorem i9_17 (hR:IsReg 9 ops):St9 ops Q b g lc N w0 own0 X a0 17:=fun c A B D l a w h hl hr => c37 hR h hl 5 15 16 hr (by decide) (Or.inr (by unfold DepIs;kernel_rfl)) { data:=#[120] } (by unfold OpIs;kernel_rfl) (by unfold DepIs;kernel_rfl) (by unfold DepIs;kernel_rfl) (by decide) (by decide) rfl rfl rfl rfl (by decide) rfl
theorem i9_18 (hR:IsReg 9 ops) (E:E9 b X a0):St9 ops Q b g lc N w0 own0 X a0 18:=fun c A B D l a w h hl hr => move9 hR E h hl hr (by decide +kernel) (by unfold OpIs;kernel_rfl) rfl
theorem i9_19 (hR:IsReg 9 ops) (E:E9 b X a0):St9 ops Q b g lc N w0 own0 X a0 19:=fun c A B D l a w h hl hr => load9 hR h hl hr (by decide +kernel) 3 1 1 (by decide) E.s3 (by unfold OpIs;kernel_rfl) rfl
theorem i9_20 (hR:IsReg 9 ops):St9 ops Q b g lc N w0 own0 X a0 20:=fun c A B D l a w h hl hr => c37 hR h hl 6 18 19 hr (by decide) (Or.inr (by unfold DepIs;kernel_rfl)) { data:=#[120] } (by unfold OpIs;kernel_rfl) (by unfold DepIs;kernel_rfl) (by unfold DepIs;kernel_rfl) (by decide) (by decide) rfl rfl rfl rfl (by decide) rfl
theorem i9_21 (hR:IsReg 9 ops) (E:E9 b X a0):St9 ops Q b g lc N w0 own0 X a0 21:=fun c A B D l a w h hl hr => move9 hR E h hl hr (by decide +kernel) (by unfold OpIs;kernel_rfl) rfl
theorem i9_22 (hR:IsReg 9 ops) (E:E9 b X a0):St9 ops Q b g lc N w0 own0 X a0 22:=fun c A B D l a w h hl hr => load9 hR h hl hr (by decide +kernel) 5 2 1 (by decide) E.s5 (by unfold OpIs;kernel_rfl) rfl
theorem i9_23 (hR:IsReg 9 ops) (E:E9 b X a0):St9 ops Q b g lc N w0 own0 X a0 23:=fun c A B D l a w h hl hr => num9 hR E h hl hr (by decide +kernel) (by unfold OpIs;kernel_rfl) rfl
theorem i9_24 (hR:IsReg 9 ops):St9 ops Q b g lc N w0 own0 X a0 24:=fun c A B D l a w h hl hr => c38 hR h hl 7 21 22 23 hr (by decide) (Or.inr (by unfold DepIs;kernel_rfl)) { data:=#[112,111,115] } { data:=#[122] } (by unfold OpIs;kernel_rfl) (by unfold DepIs;kernel_rfl) (by unfold DepIs;kernel_rfl) (by unfold DepIs;kernel_rfl) (by decide) (by decide) (by decide) rfl rfl rfl rfl rfl none 0 rfl (fun _ => Or.inl ⟨rfl,rfl⟩) rfl
theorem i9_25 (hR:IsReg 9 ops) (E:E9 b X a0):St9 ops Q b g lc N w0 own0 X a0 25:=fun c A B D l a w h hl hr => move9 hR E h hl hr (by decide +kernel) (by unfold OpIs;kernel_rfl) rfl
theorem i9_26 (hR:IsReg 9 ops) (E:E9 b X a0):St9 ops Q b g lc N w0 own0 X a0 26:=fun c A B D l a w h hl hr => load9 hR h hl hr (by decide +kernel) 3 1 1 (by decide) E.s3 (by unfold OpIs;kernel_rfl) rfl
theorem i9_27 (hR:IsReg 9 ops) (E:E9 b X a0):St9 ops Q b g lc N w0 own0 X a0 27:=fun c A B D l a w h hl hr => num9 hR E h hl hr (by decide +kernel) (by unfold OpIs;kernel_rfl) rfl
theorem i9_28 (hR:IsReg 9 ops):St9 ops Q b g lc N w0 own0 X a0 28:=fun c A B D l a w h hl hr => c38 hR h hl 8 25 26 27 hr (by decide) (Or.inr (by unfold DepIs;kernel_rfl)) { data:=#[110,111,110,101] } { data:=#[122] } (by unfold OpIs;kernel_rfl) (by unfold DepIs;kernel_rfl) (by unfold DepIs;kernel_rfl) (by unfold DepIs;kernel_rfl) (by decide) (by decide) (by decide) rfl rfl rfl rfl rfl none 0 rfl (fun _ => Or.inl ⟨rfl,rfl⟩) rfl
theorem i9_29 (hR:IsReg 9 ops) (E:E9 b X a0):St9 ops Q b g lc N w0 own0 X a0 29:=fun c A B D l a w h hl hr => move9 hR E h hl hr (by decide +kernel) (by unfold OpIs;kernel_rfl) rfl
theorem i9_30 (hR:IsReg 9 ops) (E:E9 b X a0):St9 ops Q b g lc N w0 own0 X a0 30:=fun c A B D l a w h hl hr => load9 hR h hl hr (by decide +kernel) 3 1 1 (by decide) E.s3 (by unfold OpIs;kernel_rfl) rfl
theorem i9_31 (hR:IsReg 9 ops) (E:E9 b X a0):St9 ops Q b g lc N w0 own0 X a0 31:=fun c A B D l a w h hl hr => num9 hR E h hl hr (by decide +kernel) (by unfold OpIs;kernel_rfl) rfl
theorem i9_32 (hR:IsReg 9 ops):St9 ops Q b g lc N w0 own0 X a0 32:=fun c A B D l a w h hl hr => c38 hR h hl 9 29 30 31 hr (by decide) (Or.inr (by unfold DepIs;kernel_rfl)) { data:=#[110,97,109,101] } { data:=#[122] } (by unfold OpIs;kernel_rfl) (by unfold DepIs;kernel_rfl) (by unfold DepIs;kernel_rfl) (by unfold DepIs;kernel_rfl) (by decide) (by decide) (by decide) rfl rfl rfl rfl rfl none 0 rfl (fun _ => Or.inl ⟨rfl,rfl⟩) rfl
theorem i9_33 (hR:IsReg 9 ops) (E:E9 b X a0):St9 ops Q b g lc N w0 own0 X a0 33:=fun c A B D l a w h hl hr => move9 hR E h hl hr (by decide +kernel) (by unfold OpIs;kernel_rfl) rfl
theorem i9_34 (hR:IsReg 9 ops) (E:E9 b X a0):St9 ops Q b g lc N w0 own0 X a0 34:=fun c A B D l a w h hl hr => load9 hR h hl hr (by decide +kernel) 3 1 1 (by decide) E.s3 (by unfold OpIs;kernel_rfl) rfl
theorem i9_35 (hR:IsReg 9 ops):St9 ops Q b g lc N w0 own0 X a0 35:=fun c A B D l a w h hl hr => build9 hR h hl hr (by decide +kernel) (x:=Op.build 56 #[]) (by unfold OpIs;kernel_rfl) fun o ho => run_build56_0 ho
theorem i9_36 (hR:IsReg 9 ops):St9 ops Q b g lc N w0 own0 X a0 36:=fun c A B D l a w h hl hr => c38 hR h hl 10 33 34 35 hr (by decide) (Or.inr (by unfold DepIs;kernel_rfl)) { data:=#[112,111,115] } { data:=#[122] } (by unfold OpIs;kernel_rfl) (by unfold DepIs;kernel_rfl) (by unfold DepIs;kernel_rfl) (by unfold DepIs;kernel_rfl) (by decide) (by decide) (by decide) rfl rfl rfl rfl rfl none 0 rfl (fun _ => Or.inl ⟨rfl,rfl⟩) rfl
theorem i9_37 (hR:IsReg 9 ops) (E:E9 b X a0):St9 ops Q b g lc N w0 own0 X a0 37:=fun c A B D l a w h hl hr => move9 hR E h hl hr (by decide +kernel) (by unfold OpIs;kernel_rfl) rfl
theorem i9_38 (hR:IsReg 9 ops) (E:E9 b X a0):St9 ops Q b g lc N w0 own0 X a0 38:=fun c A B D l a w h hl hr => load9 hR h hl hr (by decide +kernel) 3 1 1 (by decide) E.s3 (by unfold OpIs;kernel_rfl) rfl
theorem i9_39 (hR:IsReg 9 ops):St9 ops Q b g lc N w0 own0 X a0 39:=fun c A B D l a w h hl hr => build9 hR h hl hr (by decide +kernel) (x:=Op.build 56 #[(0,Operand.const (Value.int IntKind.i64 3))]) (by unfold OpIs;kernel_rfl) fun o ho => run_build56_k 3 ho
theorem i9_40 (hR:IsReg 9 ops):St9 ops Q b g lc N w0 own0 X a0 40:=fun c A B D l a w h hl hr => c38 hR h hl 11 37 38 39 hr (by decide) (Or.inr (by unfold DepIs;kernel_rfl)) { data:=#[112,111,115] } { data:=#[120] } (by unfold OpIs;kernel_rfl) (by unfold DepIs;kernel_rfl) (by unfold DepIs;kernel_rfl) (by unfold DepIs;kernel_rfl) (by decide) (by decide) (by decide) rfl rfl rfl rfl rfl none 0 rfl (fun _ => Or.inl ⟨rfl,rfl⟩) rfl
theorem i9_41 (hR:IsReg 9 ops) (E:E9 b X a0):St9 ops Q b g lc N w0 own0 X a0 41:=fun c A B D l a w h hl hr => move9 hR E h hl hr (by decide +kernel) (by unfold OpIs;kernel_rfl) rfl
theorem i9_42 (hR:IsReg 9 ops) (E:E9 b X a0):St9 ops Q b g lc N w0 own0 X a0 42:=fun c A B D l a w h hl hr => load9 hR h hl hr (by decide +kernel) 3 1 1 (by decide) E.s3 (by unfold OpIs;kernel_rfl) rfl
theorem i9_43 (hR:IsReg 9 ops) (E:E9 b X a0):St9 ops Q b g lc N w0 own0 X a0 43:=fun c A B D l a w h hl hr => num9 hR E h hl hr (by decide +kernel) (by unfold OpIs;kernel_rfl) rfl
theorem i9_44 (hR:IsReg 9 ops):St9 ops Q b g lc N w0 own0 X a0 44:=fun c A B D l a w h hl hr => c38 hR h hl 12 41 42 43 hr (by decide) (Or.inr (by unfold DepIs;kernel_rfl)) { data:=#[112,111,115] } { data:=#[120] } (by unfold OpIs;kernel_rfl) (by unfold DepIs;kernel_rfl) (by unfold DepIs;kernel_rfl) (by unfold DepIs;kernel_rfl) (by decide) (by decide) (by decide) rfl rfl rfl rfl rfl none 0 rfl (fun _ => Or.inl ⟨rfl,rfl⟩) rfl
theorem i9_45 (hR:IsReg 9 ops) (E:E9 b X a0):St9 ops Q b g lc N w0 own0 X a0 45:=fun c A B D l a w h hl hr => move9 hR E h hl hr (by decide +kernel) (by unfold OpIs;kernel_rfl) rfl
theorem i9_46 (hR:IsReg 9 ops) (E:E9 b X a0):St9 ops Q b g lc N w0 own0 X a0 46:=fun c A B D l a w h hl hr => load9 hR h hl hr (by decide +kernel) 3 1 1 (by decide) E.s3 (by unfold OpIs;kernel_rfl) rfl
theorem i9_47 (hR:IsReg 9 ops) (hN:N + 31 ≤ 1000) (hN1:1 ≤ N):St9 ops Q b g lc N w0 own0 X a0 47:=fun c A B D l a w h hl hr => c36 hR h hl hN hN1 13 45 46 hr (by decide) (Or.inr (by unfold DepIs;kernel_rfl)) { data:=#[108,105,110,107] } (by unfold OpIs;kernel_rfl) (by unfold DepIs;kernel_rfl) (by unfold DepIs;kernel_rfl) (by decide) (by decide) rfl rfl rfl rfl rfl
theorem i9_48 (hR:IsReg 9 ops) (E:E9 b X a0):St9 ops Q b g lc N w0 own0 X a0 48:=fun c A B D l a w h hl hr => move9 hR E h hl hr (by decide +kernel) (by unfold OpIs;kernel_rfl) rfl
theorem i9_49 (hR:IsReg 9 ops) (E:E9 b X a0):St9 ops Q b g lc N w0 own0 X a0 49:=fun c A B D l a w h hl hr => load9 hR h hl hr (by decide +kernel) 3 1 1 (by decide) E.s3 (by unfold OpIs;kernel_rfl) rfl
theorem i9_50 (hR:IsReg 9 ops) (E:E9 b X a0):St9 ops Q b g lc N w0 own0 X a0 50:=fun c A B D l a w h hl hr => load9 hR h hl hr (by decide +kernel) 5 2 1 (by decide) E.s5 (by unfold OpIs;kernel_rfl) rfl
theorem i9_51 (hR:IsReg 9 ops):St9 ops Q b g lc N w0 own0 X a0 51:=fun c A B D l a w h hl hr => build9 hR h hl hr (by decide +kernel) (x:=Op.build 56 #[(0,Operand.const (Value.int IntKind.i64 4)),(3,Operand.tmp 106)]) (by unfold OpIs;kernel_rfl) fun o ho => run_build56_h 4 106 2 1 (h.vals 50 (by decide) (DepIs.listed (n:=9) (i:=51) (by unfold DepIs;kernel_rfl) hR hr)) ho
theorem i9_52 (hR:IsReg 9 ops):St9 ops Q b g lc N w0 own0 X a0 52:=fun c A B D l a w h hl hr => c38 hR h hl 14 48 49 51 hr (by decide) (Or.inr (by unfold DepIs;kernel_rfl)) { data:=#[108,105,110,107] } { data:=#[116,111] } (by unfold OpIs;kernel_rfl) (by unfold DepIs;kernel_rfl) (by unfold DepIs;kernel_rfl) (by unfold DepIs;kernel_rfl) (by decide) (by decide) (by decide) rfl rfl rfl rfl rfl none 0 rfl (fun _ => Or.inl ⟨rfl,rfl⟩) rfl
theorem i9_53 (hR:IsReg 9 ops) (E:E9 b X a0):St9 ops Q b g lc N w0 own0 X a0 53:=fun c A B D l a w h hl hr => move9 hR E h hl hr (by decide +kernel) (by unfold OpIs;kernel_rfl) rfl
theorem i9_54 (hR:IsReg 9 ops) (E:E9 b X a0):St9 ops Q b g lc N w0 own0 X a0 54:=fun c A B D l a w h hl hr => load9 hR h hl hr (by decide +kernel) 3 1 1 (by decide) E.s3 (by unfold OpIs;kernel_rfl) rfl
theorem i9_55 (hR:IsReg 9 ops) (E:E9 b X a0):St9 ops Q b g lc N w0 own0 X a0 55:=fun c A B D l a w h hl hr => load9 hR h hl hr (by decide +kernel) 3 1 1 (by decide) E.s3 (by unfold OpIs;kernel_rfl) rfl
theorem i9_56 (hR:IsReg 9 ops):St9 ops Q b g lc N w0 own0 X a0 56:=fun c A B D l a w h hl hr => build9 hR h hl hr (by decide +kernel) (x:=Op.build 56 #[(0,Operand.const (Value.int IntKind.i64 4)),(3,Operand.tmp 111)]) (by unfold OpIs;kernel_rfl) fun o ho => run_build56_h 4 111 1 1 (h.vals 55 (by decide) (DepIs.listed (n:=9) (i:=56) (by unfold DepIs;kernel_rfl) hR hr)) ho
theorem i9_57 (hR:IsReg 9 ops):St9 ops Q b g lc N w0 own0 X a0 57:=fun c A B D l a w h hl hr => c38 hR h hl 15 53 54 56 hr (by decide) (Or.inr (by unfold DepIs;kernel_rfl)) { data:=#[108,105,110,107] } { data:=#[116,111] } (by unfold OpIs;kernel_rfl) (by unfold DepIs;kernel_rfl) (by unfold DepIs;kernel_rfl) (by unfold DepIs;kernel_rfl) (by decide) (by decide) (by decide) rfl rfl rfl rfl rfl none 0 rfl (fun _ => Or.inl ⟨rfl,rfl⟩) rfl
theorem i9_58 (hR:IsReg 9 ops) (E:E9 b X a0):St9 ops Q b g lc N w0 own0 X a0 58:=fun c A B D l a w h hl hr => move9 hR E h hl hr (by decide +kernel) (by unfold OpIs;kernel_rfl) rfl
theorem i9_59 (hR:IsReg 9 ops) (E:E9 b X a0):St9 ops Q b g lc N w0 own0 X a0 59:=fun c A B D l a w h hl hr => load9 hR h hl hr (by decide +kernel) 3 1 1 (by decide) E.s3 (by unfold OpIs;kernel_rfl) rfl
theorem i9_60 (hR:IsReg 9 ops):St9 ops Q b g lc N w0 own0 X a0 60:=fun c A B D l a w h hl hr => build9 hR h hl hr (by decide +kernel) (x:=Op.build 56 #[(0,Operand.const (Value.int IntKind.i64 4)),(1,Operand.const (Value.int IntKind.i64 9))]) (by unfold OpIs;kernel_rfl) fun o ho => run_build56_n 4 9 ho
theorem i9_61 (hR:IsReg 9 ops):St9 ops Q b g lc N w0 own0 X a0 61:=fun c A B D l a w h hl hr => c38 hR h hl 16 58 59 60 hr (by decide) (Or.inr (by unfold DepIs;kernel_rfl)) { data:=#[108,105,110,107] } { data:=#[116,111] } (by unfold OpIs;kernel_rfl) (by unfold DepIs;kernel_rfl) (by unfold DepIs;kernel_rfl) (by unfold DepIs;kernel_rfl) (by decide) (by decide) (by decide) rfl rfl rfl rfl rfl none 0 rfl (fun _ => Or.inl ⟨rfl,rfl⟩) rfl
theorem i9_62 (hR:IsReg 9 ops) (E:E9 b X a0):St9 ops Q b g lc N w0 own0 X a0 62:=fun c A B D l a w h hl hr => move9 hR E h hl hr (by decide +kernel) (by unfold OpIs;kernel_rfl) rfl
theorem i9_63 (hR:IsReg 9 ops) (E:E9 b X a0):St9 ops Q b g lc N w0 own0 X a0 63:=fun c A B D l a w h hl hr => load9 hR h hl hr (by decide +kernel) 3 1 1 (by decide) E.s3 (by unfold OpIs;kernel_rfl) rfl
theorem i9_64 (hR:IsReg 9 ops) (hN:N + 31 ≤ 1000) (hN1:1 ≤ N):St9 ops Q b g lc N w0 own0 X a0 64:=fun c A B D l a w h hl hr => c36 hR h hl hN hN1 17 62 63 hr (by decide) (Or.inr (by unfold DepIs;kernel_rfl)) { data:=#[102,108,97,103] } (by unfold OpIs;kernel_rfl) (by unfold DepIs;kernel_rfl) (by unfold DepIs;kernel_rfl) (by decide) (by decide) rfl rfl rfl rfl rfl
theorem i9_65 (hR:IsReg 9 ops) (E:E9 b X a0):St9 ops Q b g lc N w0 own0 X a0 65:=fun c A B D l a w h hl hr => move9 hR E h hl hr (by decide +kernel) (by unfold OpIs;kernel_rfl) rfl
theorem i9_66 (hR:IsReg 9 ops) (E:E9 b X a0):St9 ops Q b g lc N w0 own0 X a0 66:=fun c A B D l a w h hl hr => load9 hR h hl hr (by decide +kernel) 3 1 1 (by decide) E.s3 (by unfold OpIs;kernel_rfl) rfl
theorem i9_67 (hR:IsReg 9 ops):St9 ops Q b g lc N w0 own0 X a0 67:=fun c A B D l a w h hl hr => build9 hR h hl hr (by decide +kernel) (x:=Op.build 56 #[(0,Operand.const (Value.int IntKind.i64 2)),(1,Operand.const (Value.int IntKind.i64 2))]) (by unfold OpIs;kernel_rfl) fun o ho => run_build56_n 2 2 ho
theorem i9_68 (hR:IsReg 9 ops):St9 ops Q b g lc N w0 own0 X a0 68:=fun c A B D l a w h hl hr => c38 hR h hl 18 65 66 67 hr (by decide) (Or.inr (by unfold DepIs;kernel_rfl)) { data:=#[102,108,97,103] } { data:=#[111,110] } (by unfold OpIs;kernel_rfl) (by unfold DepIs;kernel_rfl) (by unfold DepIs;kernel_rfl) (by unfold DepIs;kernel_rfl) (by decide) (by decide) (by decide) rfl rfl rfl rfl rfl none 0 rfl (fun _ => Or.inl ⟨rfl,rfl⟩) rfl
theorem i9_69 (hR:IsReg 9 ops) (E:E9 b X a0):St9 ops Q b g lc N w0 own0 X a0 69:=fun c A B D l a w h hl hr => move9 hR E h hl hr (by decide +kernel) (by unfold OpIs;kernel_rfl) rfl
theorem i9_70 (hR:IsReg 9 ops) (E:E9 b X a0):St9 ops Q b g lc N w0 own0 X a0 70:=fun c A B D l a w h hl hr => load9 hR h hl hr (by decide +kernel) 3 1 1 (by decide) E.s3 (by unfold OpIs;kernel_rfl) rfl
theorem i9_71 (hR:IsReg 9 ops):St9 ops Q b g lc N w0 own0 X a0 71:=fun c A B D l a w h hl hr => build9 hR h hl hr (by decide +kernel) (x:=Op.build 56 #[(0,Operand.const (Value.int IntKind.i64 2)),(1,Operand.const (Value.int IntKind.i64 1)),(2,Operand.const (Value.string { data:=#[120] }))]) (by unfold OpIs;kernel_rfl) fun o ho => run_build56_ns 2 1 { data:=#[120] } ho
theorem i9_72 (hR:IsReg 9 ops):St9 ops Q b g lc N w0 own0 X a0 72:=fun c A B D l a w h hl hr => c38 hR h hl 19 69 70 71 hr (by decide) (Or.inr (by unfold DepIs;kernel_rfl)) { data:=#[102,108,97,103] } { data:=#[111,110] } (by unfold OpIs;kernel_rfl) (by unfold DepIs;kernel_rfl) (by unfold DepIs;kernel_rfl) (by unfold DepIs;kernel_rfl) (by decide) (by decide) (by decide) rfl rfl rfl rfl rfl none 0 rfl (fun _ => Or.inl ⟨rfl,rfl⟩) rfl
theorem i9_73 (hR:IsReg 9 ops) (E:E9 b X a0):St9 ops Q b g lc N w0 own0 X a0 73:=fun c A B D l a w h hl hr => move9 hR E h hl hr (by decide +kernel) (by unfold OpIs;kernel_rfl) rfl
theorem i9_74 (hR:IsReg 9 ops) (E:E9 b X a0):St9 ops Q b g lc N w0 own0 X a0 74:=fun c A B D l a w h hl hr => load9 hR h hl hr (by decide +kernel) 3 1 1 (by decide) E.s3 (by unfold OpIs;kernel_rfl) rfl
theorem i9_75 (hR:IsReg 9 ops) (hN:N + 31 ≤ 1000) (hN1:1 ≤ N):St9 ops Q b g lc N w0 own0 X a0 75:=fun c A B D l a w h hl hr => c36 hR h hl hN hN1 20 73 74 hr (by decide) (Or.inr (by unfold DepIs;kernel_rfl)) { data:=#[110,97,109,101] } (by unfold OpIs;kernel_rfl) (by unfold DepIs;kernel_rfl) (by unfold DepIs;kernel_rfl) (by decide) (by decide) rfl rfl rfl rfl rfl
theorem i9_76 (hR:IsReg 9 ops) (E:E9 b X a0):St9 ops Q b g lc N w0 own0 X a0 76:=fun c A B D l a w h hl hr => move9 hR E h hl hr (by decide +kernel) (by unfold OpIs;kernel_rfl) rfl
theorem i9_77 (hR:IsReg 9 ops) (E:E9 b X a0):St9 ops Q b g lc N w0 own0 X a0 77:=fun c A B D l a w h hl hr => load9 hR h hl hr (by decide +kernel) 3 1 1 (by decide) E.s3 (by unfold OpIs;kernel_rfl) rfl
theorem i9_78 (hR:IsReg 9 ops):St9 ops Q b g lc N w0 own0 X a0 78:=fun c A B D l a w h hl hr => build9 hR h hl hr (by decide +kernel) (x:=Op.build 56 #[(0,Operand.const (Value.int IntKind.i64 3)),(2,Operand.const (Value.string { data:=#[49,50,51,52,53,54,55,56,57,48,49,50,51] }))]) (by unfold OpIs;kernel_rfl) fun o ho => run_build56_s 3 { data:=#[49,50,51,52,53,54,55,56,57,48,49,50,51] } ho
theorem i9_79 (hR:IsReg 9 ops):St9 ops Q b g lc N w0 own0 X a0 79:=fun c A B D l a w h hl hr => c38 hR h hl 21 76 77 78 hr (by decide) (Or.inr (by unfold DepIs;kernel_rfl)) { data:=#[110,97,109,101] } { data:=#[115] } (by unfold OpIs;kernel_rfl) (by unfold DepIs;kernel_rfl) (by unfold DepIs;kernel_rfl) (by unfold DepIs;kernel_rfl) (by decide) (by decide) (by decide) rfl rfl rfl rfl rfl none 0 rfl (fun _ => Or.inl ⟨rfl,rfl⟩) rfl
theorem i9_80 (hR:IsReg 9 ops) (E:E9 b X a0):St9 ops Q b g lc N w0 own0 X a0 80:=fun c A B D l a w h hl hr => move9 hR E h hl hr (by decide +kernel) (by unfold OpIs;kernel_rfl) rfl
theorem i9_81 (hR:IsReg 9 ops) (E:E9 b X a0):St9 ops Q b g lc N w0 own0 X a0 81:=fun c A B D l a w h hl hr => load9 hR h hl hr (by decide +kernel) 3 1 1 (by decide) E.s3 (by unfold OpIs;kernel_rfl) rfl
theorem i9_82 (hR:IsReg 9 ops):St9 ops Q b g lc N w0 own0 X a0 82:=fun c A B D l a w h hl hr => build9 hR h hl hr (by decide +kernel) (x:=Op.build 56 #[(0,Operand.const (Value.int IntKind.i64 3)),(2,Operand.const (Value.string { data:=#[49,50,51,52,53,54,55,56,57,48,49,50] }))]) (by unfold OpIs;kernel_rfl) fun o ho => run_build56_s 3 { data:=#[49,50,51,52,53,54,55,56,57,48,49,50] } ho
theorem i9_83 (hR:IsReg 9 ops):St9 ops Q b g lc N w0 own0 X a0 83:=fun c A B D l a w h hl hr => c38 hR h hl 22 80 81 82 hr (by decide) (Or.inr (by unfold DepIs;kernel_rfl)) { data:=#[110,97,109,101] } { data:=#[115] } (by unfold OpIs;kernel_rfl) (by unfold DepIs;kernel_rfl) (by unfold DepIs;kernel_rfl) (by unfold DepIs;kernel_rfl) (by decide) (by decide) (by decide) rfl rfl rfl rfl rfl none 0 rfl (fun _ => Or.inl ⟨rfl,rfl⟩) rfl
theorem i9_84 (hR:IsReg 9 ops) (E:E9 b X a0):St9 ops Q b g lc N w0 own0 X a0 84:=fun c A B D l a w h hl hr => move9 hR E h hl hr (by decide +kernel) (by unfold OpIs;kernel_rfl) rfl
theorem i9_85 (hR:IsReg 9 ops) (E:E9 b X a0):St9 ops Q b g lc N w0 own0 X a0 85:=fun c A B D l a w h hl hr => load9 hR h hl hr (by decide +kernel) 3 1 1 (by decide) E.s3 (by unfold OpIs;kernel_rfl) rfl
theorem i9_86 (hR:IsReg 9 ops) (hN:N + 31 ≤ 1000) (hN1:1 ≤ N):St9 ops Q b g lc N w0 own0 X a0 86:=fun c A B D l a w h hl hr => c36 hR h hl hN hN1 23 84 85 hr (by decide) (Or.inr (by unfold DepIs;kernel_rfl)) { data:=#[98,97,103] } (by unfold OpIs;kernel_rfl) (by unfold DepIs;kernel_rfl) (by unfold DepIs;kernel_rfl) (by decide) (by decide) rfl rfl rfl rfl rfl
theorem i9_87 (hR:IsReg 9 ops) (E:E9 b X a0):St9 ops Q b g lc N w0 own0 X a0 87:=fun c A B D l a w h hl hr => move9 hR E h hl hr (by decide +kernel) (by unfold OpIs;kernel_rfl) rfl
theorem i9_88 (hR:IsReg 9 ops) (E:E9 b X a0):St9 ops Q b g lc N w0 own0 X a0 88:=fun c A B D l a w h hl hr => load9 hR h hl hr (by decide +kernel) 3 1 1 (by decide) E.s3 (by unfold OpIs;kernel_rfl) rfl
theorem i9_91 (hR:IsReg 9 ops):St9 ops Q b g lc N w0 own0 X a0 91:=fun c A B D l a w h hl hr => c38 hR h hl 24 87 88 90 hr (by decide) (Or.inr (by unfold DepIs;kernel_rfl)) { data:=#[98,97,103] } { data:=#[108] } (by unfold OpIs;kernel_rfl) (by unfold DepIs;kernel_rfl) (by unfold DepIs;kernel_rfl) (by unfold DepIs;kernel_rfl) (by decide) (by decide) (by decide) rfl rfl rfl rfl rfl (some ⟨A,0,none⟩) 5 rfl (fun q => ints5 h q) rfl
theorem i9_92 (hR:IsReg 9 ops) (E:E9 b X a0):St9 ops Q b g lc N w0 own0 X a0 92:=fun c A B D l a w h hl hr => move9 hR E h hl hr (by decide +kernel) (by unfold OpIs;kernel_rfl) rfl
theorem i9_93 (hR:IsReg 9 ops) (E:E9 b X a0):St9 ops Q b g lc N w0 own0 X a0 93:=fun c A B D l a w h hl hr => load9 hR h hl hr (by decide +kernel) 3 1 1 (by decide) E.s3 (by unfold OpIs;kernel_rfl) rfl
theorem i9_96 (hR:IsReg 9 ops):St9 ops Q b g lc N w0 own0 X a0 96:=fun c A B D l a w h hl hr => c38 hR h hl 25 92 93 95 hr (by decide) (Or.inr (by unfold DepIs;kernel_rfl)) { data:=#[98,97,103] } { data:=#[108] } (by unfold OpIs;kernel_rfl) (by unfold DepIs;kernel_rfl) (by unfold DepIs;kernel_rfl) (by unfold DepIs;kernel_rfl) (by decide) (by decide) (by decide) rfl rfl rfl rfl rfl (some ⟨B,0,none⟩) 4 rfl (fun q => ints4 h q) rfl
theorem i9_97 (hR:IsReg 9 ops) (E:E9 b X a0):St9 ops Q b g lc N w0 own0 X a0 97:=fun c A B D l a w h hl hr => move9 hR E h hl hr (by decide +kernel) (by unfold OpIs;kernel_rfl) rfl
theorem i9_98 (hR:IsReg 9 ops) (E:E9 b X a0):St9 ops Q b g lc N w0 own0 X a0 98:=fun c A B D l a w h hl hr => load9 hR h hl hr (by decide +kernel) 5 2 1 (by decide) E.s5 (by unfold OpIs;kernel_rfl) rfl
theorem i9_99 (hR:IsReg 9 ops):St9 ops Q b g lc N w0 own0 X a0 99:=fun c A B D l a w h hl hr => c27 hR h hl 26 97 98 hr (by decide) (Or.inr (by unfold DepIs;kernel_rfl)) (by unfold OpIs;kernel_rfl) (by unfold DepIs;kernel_rfl) (by unfold DepIs;kernel_rfl) (by decide) (by decide) rfl rfl rfl (by decide) rfl
theorem i9_100 (hR:IsReg 9 ops) (E:E9 b X a0):St9 ops Q b g lc N w0 own0 X a0 100:=fun c A B D l a w h hl hr => move9 hR E h hl hr (by decide +kernel) (by unfold OpIs;kernel_rfl) rfl
theorem i9_101 (hR:IsReg 9 ops) (E:E9 b X a0):St9 ops Q b g lc N w0 own0 X a0 101:=fun c A B D l a w h hl hr => load9 hR h hl hr (by decide +kernel) 7 0 0 (by decide) E.s7 (by unfold OpIs;kernel_rfl) rfl
theorem i9_102 (hR:IsReg 9 ops):St9 ops Q b g lc N w0 own0 X a0 102:=fun c A B D l a w h hl hr => c27 hR h hl 27 100 101 hr (by decide) (Or.inr (by unfold DepIs;kernel_rfl)) (by unfold OpIs;kernel_rfl) (by unfold DepIs;kernel_rfl) (by unfold DepIs;kernel_rfl) (by decide) (by decide) rfl rfl rfl (by decide) rfl
theorem i9_103 (hR:IsReg 9 ops) (E:E9 b X a0):St9 ops Q b g lc N w0 own0 X a0 103:=fun c A B D l a w h hl hr => move9 hR E h hl hr (by decide +kernel) (by unfold OpIs;kernel_rfl) rfl
theorem i9_104 (hR:IsReg 9 ops):St9 ops Q b g lc N w0 own0 X a0 104:=fun c A B D l a w h hl hr => build9 hR h hl hr (by decide +kernel) (x:=Op.build 46 #[(0,Operand.const (Value.int IntKind.i64 (-1))),(1,Operand.const (Value.int IntKind.i64 1))]) (by unfold OpIs;kernel_rfl) fun o ho => run_build46 (-1) 1 ho
theorem i9_105 (hR:IsReg 9 ops):St9 ops Q b g lc N w0 own0 X a0 105:=fun c A B D l a w h hl hr => c27 hR h hl 28 103 104 hr (by decide) (Or.inr (by unfold DepIs;kernel_rfl)) (by unfold OpIs;kernel_rfl) (by unfold DepIs;kernel_rfl) (by unfold DepIs;kernel_rfl) (by decide) (by decide) rfl rfl rfl (by decide) rfl
theorem i9_106 (hR:IsReg 9 ops) (E:E9 b X a0):St9 ops Q b g lc N w0 own0 X a0 106:=fun c A B D l a w h hl hr => move9 hR E h hl hr (by decide +kernel) (by unfold OpIs;kernel_rfl) rfl
theorem i9_107 (hR:IsReg 9 ops):St9 ops Q b g lc N w0 own0 X a0 107:=fun c A B D l a w h hl hr => build9 hR h hl hr (by decide +kernel) (x:=Op.build 46 #[(0,Operand.const (Value.int IntKind.i64 21)),(1,Operand.const (Value.int IntKind.i64 1))]) (by unfold OpIs;kernel_rfl) fun o ho => run_build46 21 1 ho
theorem i9_108 (hR:IsReg 9 ops):St9 ops Q b g lc N w0 own0 X a0 108:=fun c A B D l a w h hl hr => c27 hR h hl 29 106 107 hr (by decide) (Or.inr (by unfold DepIs;kernel_rfl)) (by unfold OpIs;kernel_rfl) (by unfold DepIs;kernel_rfl) (by unfold DepIs;kernel_rfl) (by decide) (by decide) rfl rfl rfl (by decide) rfl
theorem step9 (hR:IsReg 9 ops) (E:E9 b X a0) (hN:N + 31 ≤ 1000) (hN1:1 ≤ N):∀ i,i < 111 → St9 ops Q b g lc N w0 own0 X a0 i
 | 0,_ => i9_0 hR E
 | 1,_ => i9_1 hR E
 | 2,_ => i9_2 hR hN hN1
 | 3,_ => i9_3 hR E
 | 4,_ => i9_4 hR E
 | 5,_ => i9_5 hR hN hN1
 | 6,_ => i9_6 hR E
 | 7,_ => i9_7 hR E
 | 8,_ => i9_8 hR hN hN1
 | 9,_ => i9_9 hR E
 | 10,_ => i9_10 hR E
 | 11,_ => i9_11 hR hN hN1
 | 12,_ => i9_12 hR E
 | 13,_ => i9_13 hR E
 | 14,_ => i9_14 hR
 | 15,_ => i9_15 hR E
 | 16,_ => i9_16 hR E
 | 17,_ => i9_17 hR
 | 18,_ => i9_18 hR E
 | 19,_ => i9_19 hR E
 | 20,_ => i9_20 hR
 | 21,_ => i9_21 hR E
 | 22,_ => i9_22 hR E
 | 23,_ => i9_23 hR E
 | 24,_ => i9_24 hR
 | 25,_ => i9_25 hR E
 | 26,_ => i9_26 hR E
 | 27,_ => i9_27 hR E
 | 28,_ => i9_28 hR
 | 29,_ => i9_29 hR E
 | 30,_ => i9_30 hR E
 | 31,_ => i9_31 hR E
 | 32,_ => i9_32 hR
 | 33,_ => i9_33 hR E
 | 34,_ => i9_34 hR E
 | 35,_ => i9_35 hR
 | 36,_ => i9_36 hR
 | 37,_ => i9_37 hR E
 | 38,_ => i9_38 hR E
 | 39,_ => i9_39 hR
 | 40,_ => i9_40 hR
 | 41,_ => i9_41 hR E
 | 42,_ => i9_42 hR E
 | 43,_ => i9_43 hR E
 | 44,_ => i9_44 hR
 | 45,_ => i9_45 hR E
 | 46,_ => i9_46 hR E
 | 47,_ => i9_47 hR hN hN1
 | 48,_ => i9_48 hR E
 | 49,_ => i9_49 hR E
 | 50,_ => i9_50 hR E
 | 51,_ => i9_51 hR
 | 52,_ => i9_52 hR
 | 53,_ => i9_53 hR E
 | 54,_ => i9_54 hR E
 | 55,_ => i9_55 hR E
 | 56,_ => i9_56 hR
 | 57,_ => i9_57 hR
 | 58,_ => i9_58 hR E
 | 59,_ => i9_59 hR E
 | 60,_ => i9_60 hR
 | 61,_ => i9_61 hR
 | 62,_ => i9_62 hR E
 | 63,_ => i9_63 hR E
 | 64,_ => i9_64 hR hN hN1
 | 65,_ => i9_65 hR E
 | 66,_ => i9_66 hR E
 | 67,_ => i9_67 hR
 | 68,_ => i9_68 hR
 | 69,_ => i9_69 hR E
 | 70,_ => i9_70 hR E
 | 71,_ => i9_71 hR
 | 72,_ => i9_72 hR
 | 73,_ => i9_73 hR E
 | 74,_ => i9_74 hR E
 | 75,_ => i9_75 hR hN hN1
 | 76,_ => i9_76 hR E
 | 77,_ => i9_77 hR E
 | 78,_ => i9_78 hR
 | 79,_ => i9_79 hR
 | 80,_ => i9_80 hR E
 | 81,_ => i9_81 hR E
 | 82,_ => i9_82 hR
 | 83,_ => i9_83 hR
 | 84,_ => i9_84 hR E
 | 85,_ => i9_85 hR E
 | 86,_ => i9_86 hR hN hN1
 | 87,_ => i9_87 hR E
 | 88,_ => i9_88 hR E
 | 89,_ => fun _ _ _ _ _ _ _ h hl hr => i9_89 hR h hl hr
 | 90,_ => fun _ _ _ _ _ _ _ h hl hr => i9_90 hR h hl hr
 | 91,_ => i9_91 hR
 | 92,_ => i9_92 hR E
 | 93,_ => i9_93 hR E
 | 94,_ => fun _ _ _ _ _ _ _ h hl hr => i9_94 hR h hl hr
 | 95,_ => fun _ _ _ _ _ _ _ h hl hr => i9_95 hR h hl hr
 | 96,_ => i9_96 hR
 | 97,_ => i9_97 hR E
 | 98,_ => i9_98 hR E
 | 99,_ => i9_99 hR
 | 100,_ => i9_100 hR E
 | 101,_ => i9_101 hR E
 | 102,_ => i9_102 hR
 | 103,_ => i9_103 hR E
 | 104,_ => i9_104 hR
 | 105,_ => i9_105 hR
 | 106,_ => i9_106 hR E
 | 107,_ => i9_107 hR
 | 108,_ => i9_108 hR
 | 109,_ => fun _ _ _ _ _ _ _ h hl hr => i9_109 hR h hl hr
 | 110,_ => fun _ _ _ _ _ _ _ h hl hr => i9_110 hR h hl hr
 | n + 111,hn => absurd hn (by omega)
end
theorem region9 {ops:Array Oper} {Q:Exit → Act → World → Prop} {b g lc N:Nat} {w0 w:World} {own0:Nat → Nat} {X:List (Nat × Obj)} {a0:Act} (hR:IsReg 9 ops) (E:E9 b X a0) (hsz:a0.tmps.size = 353) (hN:N + 31 ≤ 1000) (hN1:1 ≤ N) (hcm:CmAt w0 own0 b g lc N X 0 w)
 (hQ:∀ (D:Nat) (a:Act) (w':World),a.tmps.size = 353 → a.defers = a0.defers → (∀ n,n < 56 → n ≠ 9 → a.tmps[n]? = a0.tmps[n]?) → (∀ n,166 ≤ n → a.tmps[n]? = a0.tmps[n]?) → Sl a 9 (.slice (some ⟨D,0,none⟩) 30 30) → CmAt w0 own0 b g lc N ((D,objD) :: X) 30 w' → Q .normal a w') :
 (Code.region 9 ops true).wp Tryz.prog Q a0 w:=by
 have hs:=size9 hR
 refine wp_region_inv (I9 b g lc N w0 own0 X a0) ?_ ?_ ?_
 · rw [hs]
   have hf:∀ i,(Array.replicate 111 false).getD i false = false:=fun i => by
    simp only [Array.getD_eq_getD_getElem?,Array.getElem?_replicate]
    split <;> rfl
   refine ⟨0,0,0,0,{ sz:=hsz,cle:=by omega,df:=rfl,lo:=fun _ _ _ => rfl,up:=fun _ _ => rfl,pre:=fun j _ => ?_,dA:=fun h => ?_,dB:=fun h => ?_,dD:=fun h => ?_,cm:=?_,vals:=fun i _ h => ?_ }⟩
   · rw [hf];simp
   · rw [hf] at h;cases h
   · rw [hf] at h;cases h
   · rw [hf] at h;cases h
   · have:keep9 (Array.replicate 111 false) 0 0 0 = []:=by unfold keep9;rw [hf,hf,hf];rfl
     rw [this]
     exact hcm.below (Below.refl _ _).drew
   · rw [hf] at h;cases h
 · rintro l a w' ⟨c,A,B,D,h⟩ hl i hi
   rw [hs] at hl
   have hi':i < 111:=by
    obtain ⟨_,o,ho,_⟩:=mem_ready.1 hi
    have:=(Array.getElem?_eq_some_iff.1 ho).1
    omega
   exact step9 hR E hN hN1 i hi' c A B D l a w' h hl hi
 · rintro l a w' ⟨c,A,B,D,h⟩ hl hr
   have hall:=all_listed hl (op_back hs (back9 hR)) hr
   rw [hs] at hall
   have hc:c = 30:=by
    have:=(h.pre 29 (by decide)).1 (hall _ (by decide))
    have:=h.cle
    omega
   subst hc
   refine hQ D a w' h.sz h.df h.lo h.up (h.vals 110 (by decide) (hall 110 (by decide))) (h.cm.sub fun x hx => ?_)
   unfold keep9
   rw [hall 109 (by decide)]
   rcases List.mem_cons.1 hx with rfl | hx
   · simp
   · simp [hx]
def CmZ (w0:World) (own0:Nat → Nat) (b g lc N:Nat) (X:List (Nat × Obj)) (S:St) (w:World):Prop:=∃ own,Stp w0 own0 w own ∧ WT w own b g lc N rL S ∧ Kept X w own
theorem CmZ.alloc {w0 w:World} {own0:Nat → Nat} {b g lc N:Nat} {X:List (Nat × Obj)} {S:St} (h:CmZ w0 own0 b g lc N X S w) (cs:Array Value) (t:TypeId):CmZ w0 own0 b g lc N ((w.heap.size,.cells cs t (0,0)) :: X) S (w.alloc (.cells cs t)):=by
 have hb:Below w.heap.size w (w.alloc (.cells cs t)):=(Below.refl _ _).alloc (Nat.le_refl _) _
 obtain ⟨own,h1,h2,h3⟩:=h
 refine ⟨own,h1.trans (Stp.below hb),h2.below hb,fun x hx => ?_⟩
 rcases List.mem_cons.1 hx with rfl | hx
 · exact ⟨by simp,h2.out _ (Nat.le_refl _),heap_alloc_at rfl _⟩
 · exact (h3.step (Stp.below hb)) x hx
theorem r_new (w:World) (hG:Glob w):Calls Tryz.prog 34 #[.string (mk rSch)] w fun e w1 => ∃ b,e = .returned (.tuple #[.pointer (some ⟨b,0,none⟩),.int .i64 0]) ∧ ∃ g lc,Hid ((Below w.heap.size w w1 ∧ w.heap.size ≤ b) ∧ CmZ w1 (ownB b) b g lc 1 [] St.nought w1):=by
 obtain ⟨m,hm⟩:=hG.most
 refine (new_n rSch m w (by decide) hm).mono ?_
 rintro e w' ⟨⟨cs,h1,b,g,c,rfl,h2,h3,h4,h5,h6,h7,h8,h9,h10⟩ | ⟨h1,rfl⟩,hb⟩
 · rw [r_sch] at h1
   cases h1
   exact ⟨b,rfl,g,c,⟨hb,h2⟩,ownB b,Stp.below (Below.refl _ _),wt_new h4 h5 h6 h7 h9 h10,fun x hx => by cases hx⟩
 · rw [r_sch] at h1
   cases h1
theorem r_spawn (b g lc N:Nat) (X:List (Nat × Obj)) (S:St) (w0 w:World) (own0:Nat → Nat) (h:CmZ w0 own0 b g lc N X S w) (i:Nat) (hi:i < 20) (hN:N ≤ 1000) (hN1:1 ≤ N) (hf:∀ j,j < i → shutAt S.bg S.tk j) (ht:S.tk i = false) (hg:S.bg i = 0):Calls Tryz.prog 26 #[.pointer (some ⟨b,0,none⟩)] w fun e w1 => e = .returned (.tuple #[.agg #[.int .i64 ((i:Int) + 1),.int .i64 1],.int .i64 0]) ∧ Hid (CmZ w0 own0 b g lc (N + 1) X (S.spawn i 0) w1):=by
 obtain ⟨own,h1,h2,h3⟩:=h
 refine (spawn_w h2 i hi hN hN1 hf ht (by omega)).mono ?_
 rintro e w' ⟨rfl,own',q1,q2⟩
 rw [hg]
 exact ⟨rfl,own',h1.trans q1,q2,h3.step q1⟩
theorem r_gone (b g lc N:Nat) (X:List (Nat × Obj)) (S:St) (w0 w:World) (own0:Nat → Nat) (h:CmZ w0 own0 b g lc N X S w) (i:Nat) (hi:i < 20) (ht:S.tk i = true) (hcp:∀ j,j < 20 → S.tk j = true → S.cp j = 0) (hg:S.bg i = 1):Calls Tryz.prog 27 #[.pointer (some ⟨b,0,none⟩),.agg #[.int .i64 ((i:Int) + 1),.int .i64 1]] w fun e w1 => e = .returned (.int .i64 0) ∧ Hid (CmZ w0 own0 b g lc N X (S.gone i) w1):=by
 obtain ⟨own,h1,h2,h3⟩:=h
 have:=despawn_w h2 i hi ht hcp
 rw [hg] at this
 refine this.mono ?_
 rintro e w' ⟨rfl,own',q1,q2⟩
 exact ⟨rfl,own',h1.trans q1,q2,h3.step q1⟩
theorem arr_as {n:Nat} (t:Array Value) (h:t.size = n):t = ((List.range n).map fun i => t.getD i undef).toArray:=by
 subst h
 refine Array.ext (by simp) fun i h1 h2 => ?_
 simp [Array.getD,h1]
set_option maxRecDepth 100000 in
theorem lay9 (a:Act) (hs:a.tmps.size = 353) (hd:a.defers = []) (v1 v3 v5 v7 v8 v9:Value) (s1:Sl a 1 v1) (s3:Sl a 3 v3) (s5:Sl a 5 v5) (s7:Sl a 7 v7) (s8:Sl a 8 v8) (s9:Sl a 9 v9):∃ f:Nat → Value,a = { tmps:=#[f 0,v1,f 2,v3,f 4,v5,f 6,v7,v8,v9,f 10,f 11,f 12,f 13,f 14,f 15,f 16,f 17,f 18,f 19,f 20,f 21,f 22,f 23,f 24,f 25,f 26,f 27,f 28,f 29,f 30,f 31,f 32,f 33,f 34,f 35,f 36,f 37,f 38,f 39,f 40,f 41,f 42,f 43,f 44,f 45,f 46,f 47,f 48,f 49,f 50,f 51,f 52,f 53,f 54,f 55,f 56,f 57,f 58,f 59,f 60,f 61,f 62,f 63,f 64,f 65,f 66,f 67,f 68,f 69,f 70,f 71,f 72,f 73,f 74,f 75,f 76,f 77,f 78,f 79,f 80,f 81,f 82,f 83,f 84,f 85,f 86,f 87,f 88,f 89,f 90,f 91,f 92,f 93,f 94,f 95,f 96,f 97,f 98,f 99,f 100,f 101,f 102,f 103,f 104,f 105,f 106,f 107,f 108,f 109,f 110,f 111,f 112,f 113,f 114,f 115,f 116,f 117,f 118,f 119,f 120,f 121,f 122,f 123,f 124,f 125,f 126,f 127,f 128,f 129,f 130,f 131,f 132,f 133,f 134,f 135,f 136,f 137,f 138,f 139,f 140,f 141,f 142,f 143,f 144,f 145,f 146,f 147,f 148,f 149,f 150,f 151,f 152,f 153,f 154,f 155,f 156,f 157,f 158,f 159,f 160,f 161,f 162,f 163,f 164,f 165,f 166,f 167,f 168,f 169,f 170,f 171,f 172,f 173,f 174,f 175,f 176,f 177,f 178,f 179,f 180,f 181,f 182,f 183,f 184,f 185,f 186,f 187,f 188,f 189,f 190,f 191,f 192,f 193,f 194,f 195,f 196,f 197,f 198,f 199,f 200,f 201,f 202,f 203,f 204,f 205,f 206,f 207,f 208,f 209,f 210,f 211,f 212,f 213,f 214,f 215,f 216,f 217,f 218,f 219,f 220,f 221,f 222,f 223,f 224,f 225,f 226,f 227,f 228,f 229,f 230,f 231,f 232,f 233,f 234,f 235,f 236,f 237,f 238,f 239,f 240,f 241,f 242,f 243,f 244,f 245,f 246,f 247,f 248,f 249,f 250,f 251,f 252,f 253,f 254,f 255,f 256,f 257,f 258,f 259,f 260,f 261,f 262,f 263,f 264,f 265,f 266,f 267,f 268,f 269,f 270,f 271,f 272,f 273,f 274,f 275,f 276,f 277,f 278,f 279,f 280,f 281,f 282,f 283,f 284,f 285,f 286,f 287,f 288,f 289,f 290,f 291,f 292,f 293,f 294,f 295,f 296,f 297,f 298,f 299,f 300,f 301,f 302,f 303,f 304,f 305,f 306,f 307,f 308,f 309,f 310,f 311,f 312,f 313,f 314,f 315,f 316,f 317,f 318,f 319,f 320,f 321,f 322,f 323,f 324,f 325,f 326,f 327,f 328,f 329,f 330,f 331,f 332,f 333,f 334,f 335,f 336,f 337,f 338,f 339,f 340,f 341,f 342,f 343,f 344,f 345,f 346,f 347,f 348,f 349,f 350,f 351,f 352],defers:=[] }:=by
 obtain ⟨t,d⟩:=a
 simp only at hs hd
 subst hd
 refine ⟨fun i => t.getD i undef,?_⟩
 have e:=arr_as t hs
 have g:∀ {n:Nat} {v:Value},Sl ⟨t,[]⟩ n v → t.getD n undef = v:=fun {n v} h => by
  unfold Sl at h
  simp only at h
  rw [Array.getD_eq_getD_getElem?,h]
  rfl
 have e1:=g s1
 have e3:=g s3
 have e5:=g s5
 have e7:=g s7
 have e8:=g s8
 have e9:=g s9
 rw [← e1,← e3,← e5,← e7,← e8,← e9]
 exact congrArg (fun x => ({ tmps:=x,defers:=[] }:Act)) e
theorem CmZ.toAt {w0 w:World} {own0:Nat → Nat} {b g lc N:Nat} {X:List (Nat × Obj)} (h:CmZ w0 own0 b g lc N X stB w):CmAt w0 own0 b g lc N X 0 w:=by
 obtain ⟨own,h1,h2,h3⟩:=h
 exact ⟨own,stB.lv,h1,h2,h3⟩
set_option maxHeartbeats 400000 in
theorem over39 (n:Int) (c f:ByteArray) (k x:Int) (s:ByteArray) (p l:Int) (va:Option Addr) (vn vc:Nat) (w:World):Calls Tryz.prog 39 #[.int .i64 n,.string c,.string f,.agg #[.int .i64 k,.int .i64 x,.string s,.int .i64 p,.int .i64 l,.slice va vn vc]] w fun e w' => e = .returned (.agg #[.int .i64 n,.string c,.string f,.int .i64 k,.int .i64 x,.string s,.int .i64 p,.int .i64 l,.slice va vn vc]) ∧ Below w.heap.size w w':=by
 go_enter Tryz.func39,Tryz.ntmps39
 go_wp2
 refine bodyPost_ret_by (v:=.agg #[.int .i64 n,.string c,.string f,.int .i64 k,.int .i64 x,.string s,.int .i64 p,.int .i64 l,.slice va vn vc]) ?_ rfl ⟨rfl,?_⟩
 · exact results_cell_row (p:=8) (ty:=76) rfl _ _ (w.heap.size + 1) 76 _ (0,0) _ rfl (heap_alloc_at (by simp) _) Tryz.underlying76 rfl (by kernel_rfl)
 · exact ((Below.refl _ _).alloc (Nat.le_refl _) _).alloc (by simp) _
def ovc (o:Ov):List Value:=[.int .i64 o.e,.string (mk o.c),.string (mk o.f),.int .i64 o.k,.int .i64 o.n,.string (mk o.s),.int .i64 o.p,.int .i64 o.l,.slice none 0 0]
def ovs:List (List Ov):=[[⟨0,[112,111,115],[120],1,5,[],0,0,[]⟩,⟨0,[108,105,110,107],[110,101,120,116],4,0,[],1,1,[]⟩,⟨0,[112,111,115],[120],1,6,[],0,0,[]⟩],[⟨1,[112,111,115],[120],1,1,[],0,0,[]⟩],[⟨0,[108,105,110,107],[110,101,120,116],4,0,[],1,1,[]⟩,⟨(-1),[112,111,115],[120],1,1,[],0,0,[]⟩],[⟨0,[109,97,114,107],[120],1,1,[],0,0,[]⟩],[⟨0,[110,111],[120],1,1,[],0,0,[]⟩],[⟨0,[108,105,110,107],[110,101,120,116],4,0,[],1,1,[]⟩,⟨0,[108,105,110,107],[110,101,120,116],4,0,[],1,1,[]⟩,⟨0,[112,111,115],[122],1,1,[],0,0,[]⟩],[⟨0,[112,111,115],[120],3,0,[],0,0,[]⟩],[⟨0,[108,105,110,107],[116,111],4,0,[],2,1,[]⟩]]
def ovsAt (c:Nat):List Ov:=ovs.getD c []
def v20L (p:Nat):List Value:=[.func (.func 39) #[] #[],.agg #[.int .i64 1,.int .i64 5,.string ⟨#[]⟩,.int .i64 0,.int .i64 0,.slice none 0 0],.agg (ovc ⟨0,[112,111,115],[120],1,5,[],0,0,[]⟩).toArray,.agg (ovc ⟨0,[108,105,110,107],[110,101,120,116],4,0,[],1,1,[]⟩).toArray,.func (.func 39) #[] #[],.agg #[.int .i64 1,.int .i64 6,.string ⟨#[]⟩,.int .i64 0,.int .i64 0,.slice none 0 0],.agg (ovc ⟨0,[112,111,115],[120],1,6,[],0,0,[]⟩).toArray,.slice (some ⟨p,0,none⟩) 3 3,.func (.func 39) #[] #[],.agg #[.int .i64 1,.int .i64 1,.string ⟨#[]⟩,.int .i64 0,.int .i64 0,.slice none 0 0],.agg (ovc ⟨1,[112,111,115],[120],1,1,[],0,0,[]⟩).toArray,.slice (some ⟨p,0,none⟩) 1 1,.agg (ovc ⟨0,[108,105,110,107],[110,101,120,116],4,0,[],1,1,[]⟩).toArray,.func (.func 39) #[] #[],.agg #[.int .i64 1,.int .i64 1,.string ⟨#[]⟩,.int .i64 0,.int .i64 0,.slice none 0 0],.agg (ovc ⟨(-1),[112,111,115],[120],1,1,[],0,0,[]⟩).toArray,.slice (some ⟨p,0,none⟩) 2 2,.func (.func 39) #[] #[],.agg #[.int .i64 1,.int .i64 1,.string ⟨#[]⟩,.int .i64 0,.int .i64 0,.slice none 0 0],.agg (ovc ⟨0,[109,97,114,107],[120],1,1,[],0,0,[]⟩).toArray,.slice (some ⟨p,0,none⟩) 1 1,.func (.func 39) #[] #[],.agg #[.int .i64 1,.int .i64 1,.string ⟨#[]⟩,.int .i64 0,.int .i64 0,.slice none 0 0],.agg (ovc ⟨0,[110,111],[120],1,1,[],0,0,[]⟩).toArray,.slice (some ⟨p,0,none⟩) 1 1,.agg (ovc ⟨0,[108,105,110,107],[110,101,120,116],4,0,[],1,1,[]⟩).toArray,.agg (ovc ⟨0,[108,105,110,107],[110,101,120,116],4,0,[],1,1,[]⟩).toArray,.func (.func 39) #[] #[],.agg #[.int .i64 1,.int .i64 1,.string ⟨#[]⟩,.int .i64 0,.int .i64 0,.slice none 0 0],.agg (ovc ⟨0,[112,111,115],[122],1,1,[],0,0,[]⟩).toArray,.slice (some ⟨p,0,none⟩) 3 3,.func (.func 39) #[] #[],.agg #[.int .i64 3,.int .i64 0,.string ⟨#[]⟩,.int .i64 0,.int .i64 0,.slice none 0 0],.agg (ovc ⟨0,[112,111,115],[120],3,0,[],0,0,[]⟩).toArray,.slice (some ⟨p,0,none⟩) 1 1,.func (.func 39) #[] #[],.agg #[.int .i64 2,.int .i64 1],.agg #[.int .i64 4,.int .i64 0,.string ⟨#[]⟩,.int .i64 2,.int .i64 1,.slice none 0 0],.agg (ovc ⟨0,[108,105,110,107],[116,111],4,0,[],2,1,[]⟩).toArray,.slice (some ⟨p,0,none⟩) 1 1,.slice (some ⟨p,0,none⟩) 8 8,.slice (some ⟨p,0,none⟩) 8 8]
def sig20 (i:Nat):Nat:=if i = 41 then 40 else i
def v20 (P:Nat → Nat) (i:Nat):Value:=(v20L (P (sig20 i))).getD i undef
def dst20 (i:Nat):Nat:=if i = 41 then 15 else 186 + i
def sl8:List (Nat × Nat):=[(7,0),(11,1),(16,2),(20,3),(24,4),(30,5),(34,6),(39,7)]
def objC (c:Nat):Obj:=.cells ((ovsAt c).flatMap ovc).toArray 76 (0,0)
def objS (P:Nat → Nat):Obj:=.cells #[.slice (some ⟨P 7,0,none⟩) 3 3,.slice (some ⟨P 11,0,none⟩) 1 1,.slice (some ⟨P 16,0,none⟩) 2 2,.slice (some ⟨P 20,0,none⟩) 1 1,.slice (some ⟨P 24,0,none⟩) 1 1,.slice (some ⟨P 30,0,none⟩) 3 3,.slice (some ⟨P 34,0,none⟩) 1 1,.slice (some ⟨P 39,0,none⟩) 1 1] 78 (0,0)
def keep20 (l:Array Bool) (P:Nat → Nat):List (Nat × Obj):=(sl8.filter fun i => l.getD i.1 false).map (fun i => (P i.1,objC i.2)) ++ (if l.getD 40 false then [(P 40,objS P)] else [])
section
variable {a:Act} {w:World} {o:Oper}
theorem run_load76 (x:Operand) (hop:o.op = Op.load 76 x) (q:Nat) (v:Ov) (hx:a.eval x = .pointer (some ⟨q,0,none⟩)) (hq:w.heap[q]? = some (.cells (ovc v).toArray 76 (0,0))):(execOp a.eval o).run Tryz.prog w = .ok (.value (.agg (ovc v).toArray)) w:=by
 obtain ⟨e,c,f,k,n,s,p,l,ls⟩:=v
 unfold ovc at hq ⊢
 simp only at hq ⊢
 have c0:=cell_at (j:=0) hq rfl
 have c1:=cell_at (j:=1) hq rfl
 have c2:=cell_at (j:=2) hq rfl
 have c3:=cell_at (j:=3) hq rfl
 have c4:=cell_at (j:=4) hq rfl
 have c5:=cell_at (j:=5) hq rfl
 have c6:=cell_at (j:=6) hq rfl
 have c7:=cell_at (j:=7) hq rfl
 have c8:=cell_at (j:=8) hq rfl
 clear hq
 simp only [execOp,hop,hx]
 go_simp
theorem run_sl1 (t:Nat) (u:Ov) (hx:Sl a t (.agg (ovc u).toArray)) (hop:o.op = Op.buildSlice 78 1 #[(0,.tmp t)]):(execOp a.eval o).run Tryz.prog w = .ok (.value (.slice (some ⟨w.heap.size,0,none⟩) 1 1)) (w.alloc (.cells (ovc u).toArray 76)):=by
 obtain ⟨e,c,f,k,n,s,p,l,ls⟩:=u
 unfold ovc at hx ⊢
 have hx':a.tmps[t]? = some _:=hx
 simp only [execOp,hop]
 go_simp
theorem run_sl2 (t t':Nat) (u u':Ov) (hx:Sl a t (.agg (ovc u).toArray)) (hy:Sl a t' (.agg (ovc u').toArray)) (hop:o.op = Op.buildSlice 78 2 #[(0,.tmp t),(1,.tmp t')]):(execOp a.eval o).run Tryz.prog w = .ok (.value (.slice (some ⟨w.heap.size,0,none⟩) 2 2)) (w.alloc (.cells (ovc u ++ ovc u').toArray 76)):=by
 obtain ⟨e,c,f,k,n,s,p,l,ls⟩:=u
 obtain ⟨e1,c1,f1,k1,n1,s1,p1,l1,ls1⟩:=u'
 unfold ovc at hx hy ⊢
 have hx':a.tmps[t]? = some _:=hx
 have hy':a.tmps[t']? = some _:=hy
 simp only [execOp,hop]
 go_simp
theorem run_sl3 (t t' t'':Nat) (u u' u'':Ov) (hx:Sl a t (.agg (ovc u).toArray)) (hy:Sl a t' (.agg (ovc u').toArray)) (hz:Sl a t'' (.agg (ovc u'').toArray)) (hop:o.op = Op.buildSlice 78 3 #[(0,.tmp t),(1,.tmp t'),(2,.tmp t'')]):(execOp a.eval o).run Tryz.prog w = .ok (.value (.slice (some ⟨w.heap.size,0,none⟩) 3 3)) (w.alloc (.cells (ovc u ++ (ovc u' ++ ovc u'')).toArray 76)):=by
 obtain ⟨e,c,f,k,n,s,p,l,ls⟩:=u
 obtain ⟨e1,c1,f1,k1,n1,s1,p1,l1,ls1⟩:=u'
 obtain ⟨e2,c2,f2,k2,n2,s2,p2,l2,ls2⟩:=u''
 unfold ovc at hx hy hz ⊢
 have hx':a.tmps[t]? = some _:=hx
 have hy':a.tmps[t']? = some _:=hy
 have hz':a.tmps[t'']? = some _:=hz
 simp only [execOp,hop]
 go_simp
theorem run_sl8 (P:Nat → Nat) (hx:∀ i ∈ [7,11,16,20,24,30,34,39],Sl a (dst20 i) (v20 P i)) (hop:o.op = Op.buildSlice 79 8 #[(0,Operand.tmp 193),(1,Operand.tmp 197),(2,Operand.tmp 202),(3,Operand.tmp 206),(4,Operand.tmp 210),(5,Operand.tmp 216),(6,Operand.tmp 220),(7,Operand.tmp 225)]):(execOp a.eval o).run Tryz.prog w = .ok (.value (.slice (some ⟨w.heap.size,0,none⟩) 8 8)) (w.alloc (objS P)):=by
 have s7:a.tmps[193]? = some (.slice (some ⟨P 7,0,none⟩) 3 3):=hx 7 (by decide)
 have s11:a.tmps[197]? = some (.slice (some ⟨P 11,0,none⟩) 1 1):=hx 11 (by decide)
 have s16:a.tmps[202]? = some (.slice (some ⟨P 16,0,none⟩) 2 2):=hx 16 (by decide)
 have s20:a.tmps[206]? = some (.slice (some ⟨P 20,0,none⟩) 1 1):=hx 20 (by decide)
 have s24:a.tmps[210]? = some (.slice (some ⟨P 24,0,none⟩) 1 1):=hx 24 (by decide)
 have s30:a.tmps[216]? = some (.slice (some ⟨P 30,0,none⟩) 3 3):=hx 30 (by decide)
 have s34:a.tmps[220]? = some (.slice (some ⟨P 34,0,none⟩) 1 1):=hx 34 (by decide)
 have s39:a.tmps[225]? = some (.slice (some ⟨P 39,0,none⟩) 1 1):=hx 39 (by decide)
 simp only [execOp,hop]
 go_simp
 rfl
end
theorem op_callv {ops:Array Oper} {Q:Exit → Act → World → Prop} {K:Act → World → Prop} {a:Act} {w:World} {i:Nat} {o:Oper} (hi:ops[i]? = some o) (hg:o.guard = none) (f:FuncId) (x:Operand) (hf:a.eval x = .func (.func f) #[] #[]) (xs:List Operand) (tys:Array TypeId) (hop:o.op = Op.call { callee:=Callee.value x,args:=xs.toArray,argTypes:=tys }) (us:List Value) (hx:xs.map a.eval = us)
 (hm:(callFunc f us.toArray).run Tryz.prog w = .ok (.enter f us.toArray) w) (h:Calls Tryz.prog f us.toArray w fun e w' => ∃ v',e = .returned v' ∧ K (a.put o.dst v') w'):wpOp Tryz.prog ops Q i K a w:=by
 unfold wpOp
 simp only [hi]
 have hw:Region.wanted o (yielded ops a.tmps) = true:=by simp [Region.wanted,hg]
 rw [if_pos hw]
 left
 unfold Oper.wp
 have e:(execOp a.eval o).run Tryz.prog w = .ok (.enter f us.toArray) w:=by
  simp only [execOp,hop,resolve,hf,Deferred.ofValue,invoke,Sem.run_bind,Sem.run_pure,Result.andThen_ok,List.map_toArray,hx]
  rw [show (#[] ++ us.toArray ++ #[]:Array Value) = us.toArray by simp]
  exact hm
 rw [e,Oper.upon_enter]
 refine h.mono ?_
 rintro e w' ⟨v',rfl,hk⟩
 exact hk
theorem runs39 (args:Array Value) (w:World):(callFunc 39 args).run Tryz.prog w = .ok (.enter 39 args) w:=by kernel_rfl
structure R20 (b g lc N:Nat) (w0:World) (own0:Nat → Nat) (X:List (Nat × Obj)) (a0:Act) (P:Nat → Nat) (l:Array Bool) (a:Act) (w:World):Prop where
 sz:a.tmps.size = 353
 df:a.defers = a0.defers
 lo:∀ n,n < 186 → n ≠ 15 → a.tmps[n]? = a0.tmps[n]?
 up:∀ n,227 ≤ n → a.tmps[n]? = a0.tmps[n]?
 d40:l.getD 40 false = true → ∀ i ∈ [7,11,16,20,24,30,34,39],l.getD i false = true
 d41:l.getD 41 false = true → l.getD 40 false = true
 cm:CmAt w0 own0 b g lc N (keep20 l P ++ X) 30 w
 vals:∀ i,i < 42 → l.getD i false = true → Sl a (dst20 i) (v20 P i)
def I20 (b g lc N:Nat) (w0:World) (own0:Nat → Nat) (X:List (Nat × Obj)) (a0:Act) (l:Array Bool) (a:Act) (w:World):Prop:=∃ P,R20 b g lc N w0 own0 X a0 P l a w
theorem size20 {ops:Array Oper} (h:IsReg 20 ops):ops.size = 42:=h.check (fun ops => ops.size) (by kernel_rfl)
theorem plain20 {ops:Array Oper} (h:IsReg 20 ops):plainB 42 dst20 ops = true:=h.check (plainB 42 dst20) (by kernel_rfl)
theorem back20 {ops:Array Oper} (h:IsReg 20 ops):backB 42 ops = true:=h.check (backB 42) (by kernel_rfl)
theorem dst20_inj {i j:Nat} (h:dst20 i = dst20 j) (hi:i < 42) (hj:j < 42):i = j:=by unfold dst20 at h;split at h <;> split at h <;> omega
theorem dst20_lt {i:Nat} (hi:i < 42):dst20 i < 353:=by unfold dst20;split <;> omega
theorem R20.more {b g lc N i:Nat} {w0 w w':World} {own0:Nat → Nat} {X:List (Nat × Obj)} {a0 a:Act} {P P':Nat → Nat} {l:Array Bool} (h:R20 b g lc N w0 own0 X a0 P l a w) (hl:l.size = 42) (hi:i < 42) (v:Value) (hv:v = v20 P' i)
 (hsame:∀ j,j < 42 → l.getD j false = true → v20 P' j = v20 P j) (h40:i = 40 → ∀ i ∈ [7,11,16,20,24,30,34,39],l.getD i false = true) (h41:i = 41 → l.getD 40 false = true) (hcm:CmAt w0 own0 b g lc N (keep20 (l.setIfInBounds i true) P' ++ X) 30 w') :
 R20 b g lc N w0 own0 X a0 P' (l.setIfInBounds i true) (a.put (some (dst20 i)) v) w':=by
 have hs:∀ j,(l.setIfInBounds i true).getD j false = if j = i then true else l.getD j false:=fun j => lget_set l i j (by omega)
 have hd:=dst20_lt hi
 have hm:∀ j,l.getD j false = true → (l.setIfInBounds i true).getD j false = true:=fun j q => by rw [hs,q];split <;> rfl
 refine { sz:=by simp [Act.put,h.sz],df:=by simp only [Act.put];exact h.df,lo:=fun n hn h9 => (put_get_ne a _ n v (by unfold dst20;split <;> omega)).trans (h.lo n hn h9),up:=fun n hn => (put_get_ne a _ n v (by unfold dst20;split <;> omega)).trans (h.up n hn),d40:=fun q j hj => ?_,d41:=fun q => ?_,cm:=hcm,vals:=fun j hj hq => ?_ }
 · rw [hs] at q
   split at q
   · rename_i e;exact hm _ (h40 e.symm j hj)
   · exact hm _ (h.d40 q j hj)
 · rw [hs] at q
   split at q
   · rename_i e;exact hm _ (h41 e.symm)
   · exact hm _ (h.d41 q)
 · by_cases e:j = i
   · subst e
     rw [← hv]
     exact sl_put (by rw [h.sz];exact hd)
   · rw [hs,if_neg e] at hq
     rw [hsame j hj hq]
     have:=h.vals j hj hq
     exact Sl.put_ne this (fun e' => e (dst20_inj e' hj hi))
structure E20 (X:List (Nat × Obj)) (a0:Act):Prop where
 s13:Sl a0 13 (.func (.func 39) #[] #[])
 s5:∃ q t m,Sl a0 5 (.pointer (some ⟨q,0,none⟩)) ∧ (q,Obj.cells #[.int .i64 2,.int .i64 1] t m) ∈ X
 s8:∃ q t m,Sl a0 8 (.pointer (some ⟨q,0,none⟩)) ∧ (q,Obj.cells #[.int .i64 1,.int .i64 1,.string ⟨#[]⟩,.int .i64 0,.int .i64 0,.slice none 0 0] t m) ∈ X
 s14:∃ q,Sl a0 14 (.pointer (some ⟨q,0,none⟩)) ∧ (q,Obj.cells (ovc ⟨0,[108,105,110,107],[110,101,120,116],4,0,[],1,1,[]⟩).toArray 76 (0,0)) ∈ X
section
variable {ops:Array Oper} {Q:Exit → Act → World → Prop} {b g lc N i:Nat} {w0 w:World} {own0:Nat → Nat} {X:List (Nat × Obj)} {a0 a:Act} {l:Array Bool} {P:Nat → Nat}
theorem R20.lo_at (h:R20 b g lc N w0 own0 X a0 P l a w) {n:Nat} {v:Value} (hn:n < 186) (h9:n ≠ 15) (hs:Sl a0 n v):Sl a n v:=(h.lo n hn h9).trans hs
theorem R20.mem (h:R20 b g lc N w0 own0 X a0 P l a w) {q:Nat} {ob:Obj} (hx:(q,ob) ∈ X):w.heap[q]? = some ob:=h.cm.has (List.mem_append.2 (Or.inr hx))
theorem keep20_same (hl:l.size = 42) (hi:i < 42) (hq:(sl8.all fun j => j.1 != i) = true) (h3:i ≠ 40):keep20 (l.setIfInBounds i true) P = keep20 l P:=by
 unfold keep20
 rw [lget_set l i 40 (by omega),if_neg (Ne.symm h3)]
 refine congrArg (· ++ _) (congrArg (List.map _) (List.filter_congr fun j hj => ?_))
 have:=List.all_eq_true.1 hq j hj
 simp only [bne_iff_ne,ne_eq] at this
 rw [lget_set l i _ (by omega),if_neg this]
theorem pure20 (hR:IsReg 20 ops) (h:R20 b g lc N w0 own0 X a0 P l a w) (hl:l.size = 42) (hr:i ∈ Region.ready .any ops l) (hk:(decide (i < 42) && ((sl8.all fun j => j.1 != i) && i != 40)) = true) (h41:i = 41 → l.getD 40 false = true) (hrun:∀ o,ops[i]? = some o → (execOp a.eval o).run Tryz.prog w = .ok (.value (v20 P i)) w):wpOp Tryz.prog ops Q i (I20 b g lc N w0 own0 X a0 (l.setIfInBounds i true)) a w:=by
 simp only [Bool.and_eq_true,decide_eq_true_eq,bne_iff_ne,ne_eq] at hk
 obtain ⟨hi,k2,k3⟩:=hk
 obtain ⟨_,o,ho,_⟩:=mem_ready.1 hr
 obtain ⟨p1,p2⟩:=op_plain (plain20 hR) hi ho
 refine op_value ho p2 (hrun o ho) ?_
 rw [p1]
 refine ⟨P,h.more hl hi _ rfl (fun _ _ _ => rfl) (fun e => absurd e k3) h41 ?_⟩
 rw [keep20_same hl hi k2 k3]
 exact h.cm
theorem move20 (hR:IsReg 20 ops) (E:E20 X a0) (h:R20 b g lc N w0 own0 X a0 P l a w) (hl:l.size = 42) (hr:i ∈ Region.ready .any ops l) (hk:(decide (i < 42) && ((sl8.all fun j => j.1 != i) && i != 40)) = true) (h41:i ≠ 41) (hop:OpIs 20 i (.move (.tmp 13))) (hv:v20 P i = .func (.func 39) #[] #[]):wpOp Tryz.prog ops Q i (I20 b g lc N w0 own0 X a0 (l.setIfInBounds i true)) a w:=by
 refine pure20 hR h hl hr hk (fun e => absurd e h41) fun o ho => ?_
 rw [hv,run_move _ (hop.tell hR ho),(h.lo_at (by omega) (by omega) E.s13).eval]
theorem num20 (hR:IsReg 20 ops) (E:E20 X a0) (h:R20 b g lc N w0 own0 X a0 P l a w) (hl:l.size = 42) (hr:i ∈ Region.ready .any ops l) (hk:(decide (i < 42) && ((sl8.all fun j => j.1 != i) && i != 40)) = true) (h41:i ≠ 41) (hop:OpIs 20 i (.load 56 (.tmp 8))) (hv:v20 P i = .agg #[.int .i64 1,.int .i64 1,.string ⟨#[]⟩,.int .i64 0,.int .i64 0,.slice none 0 0]):wpOp Tryz.prog ops Q i (I20 b g lc N w0 own0 X a0 (l.setIfInBounds i true)) a w:=by
 obtain ⟨q,t,m,s1,s2⟩:=E.s8
 refine pure20 hR h hl hr hk (fun e => absurd e h41) fun o ho => ?_
 rw [hv]
 exact run_load56 _ (hop.tell hR ho) q 1 1 ⟨#[]⟩ 0 0 none 0 0 (h.lo_at (by omega) (by omega) s1).eval (cell_at (h.mem s2) rfl) (cell_at (h.mem s2) rfl) (cell_at (h.mem s2) rfl) (cell_at (h.mem s2) rfl) (cell_at (h.mem s2) rfl) (cell_at (h.mem s2) rfl)
theorem good20 (hR:IsReg 20 ops) (E:E20 X a0) (h:R20 b g lc N w0 own0 X a0 P l a w) (hl:l.size = 42) (hr:i ∈ Region.ready .any ops l) (hk:(decide (i < 42) && ((sl8.all fun j => j.1 != i) && i != 40)) = true) (h41:i ≠ 41) (hop:OpIs 20 i (.load 76 (.tmp 14))) (hv:v20 P i = .agg (ovc ⟨0,[108,105,110,107],[110,101,120,116],4,0,[],1,1,[]⟩).toArray):wpOp Tryz.prog ops Q i (I20 b g lc N w0 own0 X a0 (l.setIfInBounds i true)) a w:=by
 obtain ⟨q,s1,s2⟩:=E.s14
 refine pure20 hR h hl hr hk (fun e => absurd e h41) fun o ho => ?_
 rw [hv]
 exact run_load76 _ (hop.tell hR ho) q _ (h.lo_at (by omega) (by omega) s1).eval (h.mem s2)
theorem i20_36 (hR:IsReg 20 ops) (E:E20 X a0) (h:R20 b g lc N w0 own0 X a0 P l a w) (hl:l.size = 42) (hr:36 ∈ Region.ready .any ops l):wpOp Tryz.prog ops Q 36 (I20 b g lc N w0 own0 X a0 (l.setIfInBounds 36 true)) a w:=by
 obtain ⟨q,t,m,s1,s2⟩:=E.s5
 have hop:OpIs 20 36 (.load 46 (.tmp 5)):=by unfold OpIs;kernel_rfl
 exact pure20 hR h hl hr (by decide +kernel) (fun e => absurd e (by decide)) fun o ho => run_load46 _ (hop.tell hR ho) q 2 1 (h.lo_at (by omega) (by omega) s1).eval (cell_at (h.mem s2) rfl) (cell_at (h.mem s2) rfl)
theorem i20_41 (hR:IsReg 20 ops) (h:R20 b g lc N w0 own0 X a0 P l a w) (hl:l.size = 42) (hr:41 ∈ Region.ready .any ops l):wpOp Tryz.prog ops Q 41 (I20 b g lc N w0 own0 X a0 (l.setIfInBounds 41 true)) a w:=by
 have hd:DepIs 20 41 40:=by unfold DepIs;kernel_rfl
 have hop:OpIs 20 41 (.assign (.tmp 226)):=by unfold OpIs;kernel_rfl
 have hq:=hd.listed hR hr
 exact pure20 hR h hl hr (by decide +kernel) (fun _ => hq) fun o ho => by
  have e:a.eval (.tmp 226) = v20 P 40:=(h.vals 40 (by decide) hq).eval
  rw [run_assign _ (hop.tell hR ho),e]
  rfl
theorem c39 (hR:IsReg 20 ops) (h:R20 b g lc N w0 own0 X a0 P l a w) (hl:l.size = 42) (hr:i ∈ Region.ready .any ops l) (hk:(decide (i < 42) && ((sl8.all fun j => j.1 != i) && i != 40)) = true) (h41:i ≠ 41) (ix iz:Nat) (hxi:ix < 42) (hzi:iz < 42) (v:Ov) (s t:ByteArray) (hop:OpIs 20 i (Op.call { callee:=.value (.tmp (dst20 ix)),args:=#[.const (.int .i64 v.e),.const (.string s),.const (.string t),.tmp (dst20 iz)],argTypes:=#[3,9,9,56] })) (hdx:DepIs 20 i ix) (hdz:DepIs 20 i iz) (hs:s = mk v.c) (ht:t = mk v.f)
 (hx:v20 P ix = .func (.func 39) #[] #[]) (hz:v20 P iz = .agg #[.int .i64 v.k,.int .i64 v.n,.string (mk v.s),.int .i64 v.p,.int .i64 v.l,.slice none 0 0]) (hv:v20 P i = .agg (ovc v).toArray):wpOp Tryz.prog ops Q i (I20 b g lc N w0 own0 X a0 (l.setIfInBounds i true)) a w:=by
 simp only [Bool.and_eq_true,decide_eq_true_eq,bne_iff_ne,ne_eq] at hk
 obtain ⟨hi,k2,k3⟩:=hk
 subst hs ht
 obtain ⟨_,o,ho,_⟩:=mem_ready.1 hr
 obtain ⟨p1,p2⟩:=op_plain (plain20 hR) hi ho
 have e1:=(h.vals ix hxi (hdx.listed hR hr)).eval
 have e2:=(h.vals iz hzi (hdz.listed hR hr)).eval
 refine op_callv ho p2 39 (.tmp (dst20 ix)) (e1.trans hx) [.const (.int .i64 v.e),.const (.string (mk v.c)),.const (.string (mk v.f)),.tmp (dst20 iz)] _ (hop.tell hR ho) [_,_,_,_] (by simp only [List.map_cons,List.map_nil,e2,hz];rfl) (runs39 _ _) ?_
 refine (over39 v.e (mk v.c) (mk v.f) v.k v.n (mk v.s) v.p v.l none 0 0 w).mono ?_
 rintro e w' ⟨rfl,hb⟩
 refine ⟨_,rfl,?_⟩
 rw [p1]
 refine ⟨P,h.more hl hi _ hv.symm (fun _ _ _ => rfl) (fun e => absurd e k3) (fun e => absurd e h41) ?_⟩
 rw [keep20_same hl hi k2 k3]
 exact h.cm.below hb
theorem sl20 (hR:IsReg 20 ops) (h:R20 b g lc N w0 own0 X a0 P l a w) (hl:l.size = 42) (hr:i ∈ Region.ready .any ops l) (c:Nat) (hk:(decide (i < 40) && (sl8.contains (i,c) && (sl8.all fun j => j.1 != i || j.2 == c))) = true) (hi8:i ∈ [7,11,16,20,24,30,34,39]) (hv:∀ n,v20 (upd P i n) i = .slice (some ⟨n,0,none⟩) (ovsAt c).length (ovsAt c).length) (hrun:∀ o,ops[i]? = some o → (execOp a.eval o).run Tryz.prog w = .ok (.value (.slice (some ⟨w.heap.size,0,none⟩) (ovsAt c).length (ovsAt c).length)) (w.alloc (.cells ((ovsAt c).flatMap ovc).toArray 76))):wpOp Tryz.prog ops Q i (I20 b g lc N w0 own0 X a0 (l.setIfInBounds i true)) a w:=by
 simp only [Bool.and_eq_true,decide_eq_true_eq] at hk
 obtain ⟨hi,k2,k3⟩:=hk
 have hn:=ready_not hr
 obtain ⟨_,o,ho,_⟩:=mem_ready.1 hr
 obtain ⟨p1,p2⟩:=op_plain (plain20 hR) (by omega) ho
 have h40:l.getD 40 false = false:=by
  cases q:l.getD 40 false with
  | false => rfl
  | true => exact false_of hn (h.d40 q i hi8)
 refine op_value ho p2 (hrun o ho) ?_
 rw [p1]
 refine ⟨upd P i w.heap.size,h.more hl (by omega) _ (hv _).symm (fun j hj hq => ?_) (fun e => absurd e (by omega)) (fun e => absurd e (by omega)) ?_⟩
 · unfold v20
   have hji:j ≠ i:=fun e => by subst e;exact false_of hn hq
   rw [upd_ne _ _ _ (by unfold sig20;split <;> omega)]
 · refine (h.cm.alloc ((ovsAt c).flatMap ovc).toArray 76).sub fun x hx => ?_
   rcases List.mem_append.1 hx with hx | hx
   · unfold keep20 at hx
     rw [lget_set l i 40 (by omega),if_neg (show ¬40 = i by omega),h40] at hx
     simp only [Bool.false_eq_true,if_false,List.append_nil,List.mem_map,List.mem_filter] at hx
     obtain ⟨j,⟨hj1,hj2⟩,rfl⟩:=hx
     rw [lget_set l i _ (by omega)] at hj2
     by_cases e:j.1 = i
     · have:=List.all_eq_true.1 k3 j hj1
       simp only [e,bne_self_eq_false,Bool.false_or,beq_iff_eq] at this
       rw [e,upd_same,this]
       exact List.mem_cons_self ..
     · rw [if_neg e] at hj2
       rw [upd_ne _ _ _ e]
       refine List.mem_cons.2 (Or.inr (List.mem_append.2 (Or.inl ?_)))
       unfold keep20
       exact List.mem_append.2 (Or.inl (List.mem_map.2 ⟨j,List.mem_filter.2 ⟨hj1,hj2⟩,rfl⟩))
   · exact List.mem_cons.2 (Or.inr (List.mem_append.2 (Or.inr hx)))
theorem i20_40 (hR:IsReg 20 ops) (h:R20 b g lc N w0 own0 X a0 P l a w) (hl:l.size = 42) (hr:40 ∈ Region.ready .any ops l):wpOp Tryz.prog ops Q 40 (I20 b g lc N w0 own0 X a0 (l.setIfInBounds 40 true)) a w:=by
 have hn:=ready_not hr
 obtain ⟨_,o,ho,_⟩:=mem_ready.1 hr
 obtain ⟨p1,p2⟩:=op_plain (plain20 hR) (by decide) ho
 have hop:OpIs 20 40 (Op.buildSlice 79 8 #[(0,Operand.tmp 193),(1,Operand.tmp 197),(2,Operand.tmp 202),(3,Operand.tmp 206),(4,Operand.tmp 210),(5,Operand.tmp 216),(6,Operand.tmp 220),(7,Operand.tmp 225)]):=by unfold OpIs;kernel_rfl
 have hall:([7,11,16,20,24,30,34,39].all fun j => depB ops 40 j) = true:=hR.check (fun ops => [7,11,16,20,24,30,34,39].all fun j => depB ops 40 j) (by kernel_rfl)
 have hls:∀ i ∈ [7,11,16,20,24,30,34,39],l.getD i false = true:=fun i hi => dep_listed hr (List.all_eq_true.1 hall i hi)
 have hlt:∀ i ∈ [7,11,16,20,24,30,34,39],i < 40:=by decide
 refine op_value ho p2 (run_sl8 P (fun i hi => h.vals i (by have:=hlt i hi;omega) (hls i hi)) (hop.tell hR ho)) ?_
 rw [p1]
 have eS:objS (upd P 40 w.heap.size) = objS P:=rfl
 refine ⟨upd P 40 w.heap.size,h.more hl (by decide) _ rfl (fun j hj hq => ?_) (fun _ => hls) (fun e => absurd e (by decide)) ?_⟩
 · unfold v20
   have h1:j ≠ 40:=fun e => by subst e;exact false_of hn hq
   have h2:j ≠ 41:=fun e => by subst e;exact false_of hn (h.d41 hq)
   rw [upd_ne _ _ _ (by unfold sig20;split <;> omega)]
 · refine CmAt.sub (X:=(w.heap.size,objS P) :: (keep20 l P ++ X)) (h.cm.alloc _ _) fun x hx => ?_
   rcases List.mem_append.1 hx with hx | hx
   · unfold keep20 at hx
     rw [lget_set l 40 40 (by omega),if_pos (rfl:40 = 40),if_pos rfl,upd_same,eS] at hx
     rcases List.mem_append.1 hx with hx | hx
     · refine List.mem_cons.2 (Or.inr (List.mem_append.2 (Or.inl ?_)))
       simp only [List.mem_map,List.mem_filter] at hx
       obtain ⟨j,⟨hj1,hj2⟩,rfl⟩:=hx
       have hj40:j.1 ≠ 40:=by
        have:(sl8.all fun j => j.1 != 40) = true:=by decide +kernel
        have:=List.all_eq_true.1 this j hj1
        simpa using this
       rw [lget_set l 40 _ (by omega),if_neg hj40] at hj2
       rw [upd_ne _ _ _ hj40]
       unfold keep20
       exact List.mem_append.2 (Or.inl (List.mem_map.2 ⟨j,List.mem_filter.2 ⟨hj1,hj2⟩,rfl⟩))
     · rw [List.mem_singleton] at hx
       subst hx
       exact List.mem_cons_self ..
   · exact List.mem_cons.2 (Or.inr (List.mem_append.2 (Or.inr hx)))
end
def St20 (ops:Array Oper) (Q:Exit → Act → World → Prop) (b g lc N:Nat) (w0:World) (own0:Nat → Nat) (X:List (Nat × Obj)) (a0:Act) (i:Nat):Prop:=∀ (P:Nat → Nat) (l:Array Bool) (a:Act) (w:World),R20 b g lc N w0 own0 X a0 P l a w → l.size = 42 → i ∈ Region.ready .any ops l → wpOp Tryz.prog ops Q i (I20 b g lc N w0 own0 X a0 (l.setIfInBounds i true)) a w
section
variable {ops:Array Oper} {Q:Exit → Act → World → Prop} {b g lc N:Nat} {w0:World} {own0:Nat → Nat} {X:List (Nat × Obj)} {a0:Act}
theorem i20_0 (hR:IsReg 20 ops) (E:E20 X a0):St20 ops Q b g lc N w0 own0 X a0 0:=fun P l a w h hl hr => move20 hR E h hl hr (by decide +kernel) (by decide) (by unfold OpIs;kernel_rfl) rfl
theorem i20_1 (hR:IsReg 20 ops):St20 ops Q b g lc N w0 own0 X a0 1:=fun P l a w h hl hr => pure20 hR h hl hr (by decide +kernel) (fun e => absurd e (by decide)) fun o ho => run_build56_n 1 5 (OpIs.tell (n:=20) (i:=1) (x:=Op.build 56 #[(0,Operand.const (Value.int IntKind.i64 1)),(1,Operand.const (Value.int IntKind.i64 5))]) (by unfold OpIs;kernel_rfl) hR ho)
theorem i20_2 (hR:IsReg 20 ops):St20 ops Q b g lc N w0 own0 X a0 2:=fun P l a w h hl hr => c39 hR h hl hr (by decide +kernel) (by decide) 0 1 (by decide) (by decide) ⟨0,[112,111,115],[120],1,5,[],0,0,[]⟩ { data:=#[112,111,115] } { data:=#[120] } (by unfold OpIs;kernel_rfl) (by unfold DepIs;kernel_rfl) (by unfold DepIs;kernel_rfl) rfl rfl rfl rfl rfl
theorem i20_3 (hR:IsReg 20 ops) (E:E20 X a0):St20 ops Q b g lc N w0 own0 X a0 3:=fun P l a w h hl hr => good20 hR E h hl hr (by decide +kernel) (by decide) (by unfold OpIs;kernel_rfl) rfl
theorem i20_4 (hR:IsReg 20 ops) (E:E20 X a0):St20 ops Q b g lc N w0 own0 X a0 4:=fun P l a w h hl hr => move20 hR E h hl hr (by decide +kernel) (by decide) (by unfold OpIs;kernel_rfl) rfl
theorem i20_5 (hR:IsReg 20 ops):St20 ops Q b g lc N w0 own0 X a0 5:=fun P l a w h hl hr => pure20 hR h hl hr (by decide +kernel) (fun e => absurd e (by decide)) fun o ho => run_build56_n 1 6 (OpIs.tell (n:=20) (i:=5) (x:=Op.build 56 #[(0,Operand.const (Value.int IntKind.i64 1)),(1,Operand.const (Value.int IntKind.i64 6))]) (by unfold OpIs;kernel_rfl) hR ho)
theorem i20_6 (hR:IsReg 20 ops):St20 ops Q b g lc N w0 own0 X a0 6:=fun P l a w h hl hr => c39 hR h hl hr (by decide +kernel) (by decide) 4 5 (by decide) (by decide) ⟨0,[112,111,115],[120],1,6,[],0,0,[]⟩ { data:=#[112,111,115] } { data:=#[120] } (by unfold OpIs;kernel_rfl) (by unfold DepIs;kernel_rfl) (by unfold DepIs;kernel_rfl) rfl rfl rfl rfl rfl
theorem i20_7 (hR:IsReg 20 ops):St20 ops Q b g lc N w0 own0 X a0 7:=fun P l a w h hl hr => sl20 hR h hl hr 0 (by decide +kernel) (by decide) (fun _ => rfl) fun o ho => run_sl3 188 189 192 ⟨0,[112,111,115],[120],1,5,[],0,0,[]⟩ ⟨0,[108,105,110,107],[110,101,120,116],4,0,[],1,1,[]⟩ ⟨0,[112,111,115],[120],1,6,[],0,0,[]⟩ (h.vals 2 (by decide) (DepIs.listed (n:=20) (i:=7) (by unfold DepIs;kernel_rfl) hR hr)) (h.vals 3 (by decide) (DepIs.listed (n:=20) (i:=7) (by unfold DepIs;kernel_rfl) hR hr)) (h.vals 6 (by decide) (DepIs.listed (n:=20) (i:=7) (by unfold DepIs;kernel_rfl) hR hr)) (OpIs.tell (n:=20) (i:=7) (x:=Op.buildSlice 78 3 #[(0,Operand.tmp 188),(1,Operand.tmp 189),(2,Operand.tmp 192)]) (by unfold OpIs;kernel_rfl) hR ho)
theorem i20_8 (hR:IsReg 20 ops) (E:E20 X a0):St20 ops Q b g lc N w0 own0 X a0 8:=fun P l a w h hl hr => move20 hR E h hl hr (by decide +kernel) (by decide) (by unfold OpIs;kernel_rfl) rfl
theorem i20_9 (hR:IsReg 20 ops) (E:E20 X a0):St20 ops Q b g lc N w0 own0 X a0 9:=fun P l a w h hl hr => num20 hR E h hl hr (by decide +kernel) (by decide) (by unfold OpIs;kernel_rfl) rfl
theorem i20_10 (hR:IsReg 20 ops):St20 ops Q b g lc N w0 own0 X a0 10:=fun P l a w h hl hr => c39 hR h hl hr (by decide +kernel) (by decide) 8 9 (by decide) (by decide) ⟨1,[112,111,115],[120],1,1,[],0,0,[]⟩ { data:=#[112,111,115] } { data:=#[120] } (by unfold OpIs;kernel_rfl) (by unfold DepIs;kernel_rfl) (by unfold DepIs;kernel_rfl) rfl rfl rfl rfl rfl
theorem i20_11 (hR:IsReg 20 ops):St20 ops Q b g lc N w0 own0 X a0 11:=fun P l a w h hl hr => sl20 hR h hl hr 1 (by decide +kernel) (by decide) (fun _ => rfl) fun o ho => run_sl1 196 ⟨1,[112,111,115],[120],1,1,[],0,0,[]⟩ (h.vals 10 (by decide) (DepIs.listed (n:=20) (i:=11) (by unfold DepIs;kernel_rfl) hR hr)) (OpIs.tell (n:=20) (i:=11) (x:=Op.buildSlice 78 1 #[(0,Operand.tmp 196)]) (by unfold OpIs;kernel_rfl) hR ho)
theorem i20_12 (hR:IsReg 20 ops) (E:E20 X a0):St20 ops Q b g lc N w0 own0 X a0 12:=fun P l a w h hl hr => good20 hR E h hl hr (by decide +kernel) (by decide) (by unfold OpIs;kernel_rfl) rfl
theorem i20_13 (hR:IsReg 20 ops) (E:E20 X a0):St20 ops Q b g lc N w0 own0 X a0 13:=fun P l a w h hl hr => move20 hR E h hl hr (by decide +kernel) (by decide) (by unfold OpIs;kernel_rfl) rfl
theorem i20_14 (hR:IsReg 20 ops) (E:E20 X a0):St20 ops Q b g lc N w0 own0 X a0 14:=fun P l a w h hl hr => num20 hR E h hl hr (by decide +kernel) (by decide) (by unfold OpIs;kernel_rfl) rfl
theorem i20_15 (hR:IsReg 20 ops):St20 ops Q b g lc N w0 own0 X a0 15:=fun P l a w h hl hr => c39 hR h hl hr (by decide +kernel) (by decide) 13 14 (by decide) (by decide) ⟨(-1),[112,111,115],[120],1,1,[],0,0,[]⟩ { data:=#[112,111,115] } { data:=#[120] } (by unfold OpIs;kernel_rfl) (by unfold DepIs;kernel_rfl) (by unfold DepIs;kernel_rfl) rfl rfl rfl rfl rfl
theorem i20_16 (hR:IsReg 20 ops):St20 ops Q b g lc N w0 own0 X a0 16:=fun P l a w h hl hr => sl20 hR h hl hr 2 (by decide +kernel) (by decide) (fun _ => rfl) fun o ho => run_sl2 198 201 ⟨0,[108,105,110,107],[110,101,120,116],4,0,[],1,1,[]⟩ ⟨(-1),[112,111,115],[120],1,1,[],0,0,[]⟩ (h.vals 12 (by decide) (DepIs.listed (n:=20) (i:=16) (by unfold DepIs;kernel_rfl) hR hr)) (h.vals 15 (by decide) (DepIs.listed (n:=20) (i:=16) (by unfold DepIs;kernel_rfl) hR hr)) (OpIs.tell (n:=20) (i:=16) (x:=Op.buildSlice 78 2 #[(0,Operand.tmp 198),(1,Operand.tmp 201)]) (by unfold OpIs;kernel_rfl) hR ho)
theorem i20_17 (hR:IsReg 20 ops) (E:E20 X a0):St20 ops Q b g lc N w0 own0 X a0 17:=fun P l a w h hl hr => move20 hR E h hl hr (by decide +kernel) (by decide) (by unfold OpIs;kernel_rfl) rfl
theorem i20_18 (hR:IsReg 20 ops) (E:E20 X a0):St20 ops Q b g lc N w0 own0 X a0 18:=fun P l a w h hl hr => num20 hR E h hl hr (by decide +kernel) (by decide) (by unfold OpIs;kernel_rfl) rfl
theorem i20_19 (hR:IsReg 20 ops):St20 ops Q b g lc N w0 own0 X a0 19:=fun P l a w h hl hr => c39 hR h hl hr (by decide +kernel) (by decide) 17 18 (by decide) (by decide) ⟨0,[109,97,114,107],[120],1,1,[],0,0,[]⟩ { data:=#[109,97,114,107] } { data:=#[120] } (by unfold OpIs;kernel_rfl) (by unfold DepIs;kernel_rfl) (by unfold DepIs;kernel_rfl) rfl rfl rfl rfl rfl
theorem i20_20 (hR:IsReg 20 ops):St20 ops Q b g lc N w0 own0 X a0 20:=fun P l a w h hl hr => sl20 hR h hl hr 3 (by decide +kernel) (by decide) (fun _ => rfl) fun o ho => run_sl1 205 ⟨0,[109,97,114,107],[120],1,1,[],0,0,[]⟩ (h.vals 19 (by decide) (DepIs.listed (n:=20) (i:=20) (by unfold DepIs;kernel_rfl) hR hr)) (OpIs.tell (n:=20) (i:=20) (x:=Op.buildSlice 78 1 #[(0,Operand.tmp 205)]) (by unfold OpIs;kernel_rfl) hR ho)
theorem i20_21 (hR:IsReg 20 ops) (E:E20 X a0):St20 ops Q b g lc N w0 own0 X a0 21:=fun P l a w h hl hr => move20 hR E h hl hr (by decide +kernel) (by decide) (by unfold OpIs;kernel_rfl) rfl
theorem i20_22 (hR:IsReg 20 ops) (E:E20 X a0):St20 ops Q b g lc N w0 own0 X a0 22:=fun P l a w h hl hr => num20 hR E h hl hr (by decide +kernel) (by decide) (by unfold OpIs;kernel_rfl) rfl
theorem i20_23 (hR:IsReg 20 ops):St20 ops Q b g lc N w0 own0 X a0 23:=fun P l a w h hl hr => c39 hR h hl hr (by decide +kernel) (by decide) 21 22 (by decide) (by decide) ⟨0,[110,111],[120],1,1,[],0,0,[]⟩ { data:=#[110,111] } { data:=#[120] } (by unfold OpIs;kernel_rfl) (by unfold DepIs;kernel_rfl) (by unfold DepIs;kernel_rfl) rfl rfl rfl rfl rfl
theorem i20_24 (hR:IsReg 20 ops):St20 ops Q b g lc N w0 own0 X a0 24:=fun P l a w h hl hr => sl20 hR h hl hr 4 (by decide +kernel) (by decide) (fun _ => rfl) fun o ho => run_sl1 209 ⟨0,[110,111],[120],1,1,[],0,0,[]⟩ (h.vals 23 (by decide) (DepIs.listed (n:=20) (i:=24) (by unfold DepIs;kernel_rfl) hR hr)) (OpIs.tell (n:=20) (i:=24) (x:=Op.buildSlice 78 1 #[(0,Operand.tmp 209)]) (by unfold OpIs;kernel_rfl) hR ho)
theorem i20_25 (hR:IsReg 20 ops) (E:E20 X a0):St20 ops Q b g lc N w0 own0 X a0 25:=fun P l a w h hl hr => good20 hR E h hl hr (by decide +kernel) (by decide) (by unfold OpIs;kernel_rfl) rfl
theorem i20_26 (hR:IsReg 20 ops) (E:E20 X a0):St20 ops Q b g lc N w0 own0 X a0 26:=fun P l a w h hl hr => good20 hR E h hl hr (by decide +kernel) (by decide) (by unfold OpIs;kernel_rfl) rfl
theorem i20_27 (hR:IsReg 20 ops) (E:E20 X a0):St20 ops Q b g lc N w0 own0 X a0 27:=fun P l a w h hl hr => move20 hR E h hl hr (by decide +kernel) (by decide) (by unfold OpIs;kernel_rfl) rfl
theorem i20_28 (hR:IsReg 20 ops) (E:E20 X a0):St20 ops Q b g lc N w0 own0 X a0 28:=fun P l a w h hl hr => num20 hR E h hl hr (by decide +kernel) (by decide) (by unfold OpIs;kernel_rfl) rfl
theorem i20_29 (hR:IsReg 20 ops):St20 ops Q b g lc N w0 own0 X a0 29:=fun P l a w h hl hr => c39 hR h hl hr (by decide +kernel) (by decide) 27 28 (by decide) (by decide) ⟨0,[112,111,115],[122],1,1,[],0,0,[]⟩ { data:=#[112,111,115] } { data:=#[122] } (by unfold OpIs;kernel_rfl) (by unfold DepIs;kernel_rfl) (by unfold DepIs;kernel_rfl) rfl rfl rfl rfl rfl
theorem i20_30 (hR:IsReg 20 ops):St20 ops Q b g lc N w0 own0 X a0 30:=fun P l a w h hl hr => sl20 hR h hl hr 5 (by decide +kernel) (by decide) (fun _ => rfl) fun o ho => run_sl3 211 212 215 ⟨0,[108,105,110,107],[110,101,120,116],4,0,[],1,1,[]⟩ ⟨0,[108,105,110,107],[110,101,120,116],4,0,[],1,1,[]⟩ ⟨0,[112,111,115],[122],1,1,[],0,0,[]⟩ (h.vals 25 (by decide) (DepIs.listed (n:=20) (i:=30) (by unfold DepIs;kernel_rfl) hR hr)) (h.vals 26 (by decide) (DepIs.listed (n:=20) (i:=30) (by unfold DepIs;kernel_rfl) hR hr)) (h.vals 29 (by decide) (DepIs.listed (n:=20) (i:=30) (by unfold DepIs;kernel_rfl) hR hr)) (OpIs.tell (n:=20) (i:=30) (x:=Op.buildSlice 78 3 #[(0,Operand.tmp 211),(1,Operand.tmp 212),(2,Operand.tmp 215)]) (by unfold OpIs;kernel_rfl) hR ho)
theorem i20_31 (hR:IsReg 20 ops) (E:E20 X a0):St20 ops Q b g lc N w0 own0 X a0 31:=fun P l a w h hl hr => move20 hR E h hl hr (by decide +kernel) (by decide) (by unfold OpIs;kernel_rfl) rfl
theorem i20_32 (hR:IsReg 20 ops):St20 ops Q b g lc N w0 own0 X a0 32:=fun P l a w h hl hr => pure20 hR h hl hr (by decide +kernel) (fun e => absurd e (by decide)) fun o ho => run_build56_k 3 (OpIs.tell (n:=20) (i:=32) (x:=Op.build 56 #[(0,Operand.const (Value.int IntKind.i64 3))]) (by unfold OpIs;kernel_rfl) hR ho)
theorem i20_33 (hR:IsReg 20 ops):St20 ops Q b g lc N w0 own0 X a0 33:=fun P l a w h hl hr => c39 hR h hl hr (by decide +kernel) (by decide) 31 32 (by decide) (by decide) ⟨0,[112,111,115],[120],3,0,[],0,0,[]⟩ { data:=#[112,111,115] } { data:=#[120] } (by unfold OpIs;kernel_rfl) (by unfold DepIs;kernel_rfl) (by unfold DepIs;kernel_rfl) rfl rfl rfl rfl rfl
theorem i20_34 (hR:IsReg 20 ops):St20 ops Q b g lc N w0 own0 X a0 34:=fun P l a w h hl hr => sl20 hR h hl hr 6 (by decide +kernel) (by decide) (fun _ => rfl) fun o ho => run_sl1 219 ⟨0,[112,111,115],[120],3,0,[],0,0,[]⟩ (h.vals 33 (by decide) (DepIs.listed (n:=20) (i:=34) (by unfold DepIs;kernel_rfl) hR hr)) (OpIs.tell (n:=20) (i:=34) (x:=Op.buildSlice 78 1 #[(0,Operand.tmp 219)]) (by unfold OpIs;kernel_rfl) hR ho)
theorem i20_35 (hR:IsReg 20 ops) (E:E20 X a0):St20 ops Q b g lc N w0 own0 X a0 35:=fun P l a w h hl hr => move20 hR E h hl hr (by decide +kernel) (by decide) (by unfold OpIs;kernel_rfl) rfl
theorem i20_37 (hR:IsReg 20 ops):St20 ops Q b g lc N w0 own0 X a0 37:=fun P l a w h hl hr => pure20 hR h hl hr (by decide +kernel) (fun e => absurd e (by decide)) fun o ho => run_build56_h 4 222 2 1 (h.vals 36 (by decide) (DepIs.listed (n:=20) (i:=37) (by unfold DepIs;kernel_rfl) hR hr)) (OpIs.tell (n:=20) (i:=37) (x:=Op.build 56 #[(0,Operand.const (Value.int IntKind.i64 4)),(3,Operand.tmp 222)]) (by unfold OpIs;kernel_rfl) hR ho)
theorem i20_38 (hR:IsReg 20 ops):St20 ops Q b g lc N w0 own0 X a0 38:=fun P l a w h hl hr => c39 hR h hl hr (by decide +kernel) (by decide) 35 37 (by decide) (by decide) ⟨0,[108,105,110,107],[116,111],4,0,[],2,1,[]⟩ { data:=#[108,105,110,107] } { data:=#[116,111] } (by unfold OpIs;kernel_rfl) (by unfold DepIs;kernel_rfl) (by unfold DepIs;kernel_rfl) rfl rfl rfl rfl rfl
theorem i20_39 (hR:IsReg 20 ops):St20 ops Q b g lc N w0 own0 X a0 39:=fun P l a w h hl hr => sl20 hR h hl hr 7 (by decide +kernel) (by decide) (fun _ => rfl) fun o ho => run_sl1 224 ⟨0,[108,105,110,107],[116,111],4,0,[],2,1,[]⟩ (h.vals 38 (by decide) (DepIs.listed (n:=20) (i:=39) (by unfold DepIs;kernel_rfl) hR hr)) (OpIs.tell (n:=20) (i:=39) (x:=Op.buildSlice 78 1 #[(0,Operand.tmp 224)]) (by unfold OpIs;kernel_rfl) hR ho)
theorem step20 (hR:IsReg 20 ops) (E:E20 X a0):∀ i,i < 42 → St20 ops Q b g lc N w0 own0 X a0 i
 | 0,_ => i20_0 hR E
 | 1,_ => i20_1 hR
 | 2,_ => i20_2 hR
 | 3,_ => i20_3 hR E
 | 4,_ => i20_4 hR E
 | 5,_ => i20_5 hR
 | 6,_ => i20_6 hR
 | 7,_ => i20_7 hR
 | 8,_ => i20_8 hR E
 | 9,_ => i20_9 hR E
 | 10,_ => i20_10 hR
 | 11,_ => i20_11 hR
 | 12,_ => i20_12 hR E
 | 13,_ => i20_13 hR E
 | 14,_ => i20_14 hR E
 | 15,_ => i20_15 hR
 | 16,_ => i20_16 hR
 | 17,_ => i20_17 hR E
 | 18,_ => i20_18 hR E
 | 19,_ => i20_19 hR
 | 20,_ => i20_20 hR
 | 21,_ => i20_21 hR E
 | 22,_ => i20_22 hR E
 | 23,_ => i20_23 hR
 | 24,_ => i20_24 hR
 | 25,_ => i20_25 hR E
 | 26,_ => i20_26 hR E
 | 27,_ => i20_27 hR E
 | 28,_ => i20_28 hR E
 | 29,_ => i20_29 hR
 | 30,_ => i20_30 hR
 | 31,_ => i20_31 hR E
 | 32,_ => i20_32 hR
 | 33,_ => i20_33 hR
 | 34,_ => i20_34 hR
 | 35,_ => i20_35 hR E
 | 36,_ => fun _ _ _ _ h hl hr => i20_36 hR E h hl hr
 | 37,_ => i20_37 hR
 | 38,_ => i20_38 hR
 | 39,_ => i20_39 hR
 | 40,_ => fun _ _ _ _ h hl hr => i20_40 hR h hl hr
 | 41,_ => fun _ _ _ _ h hl hr => i20_41 hR h hl hr
 | n + 42,hn => absurd hn (by omega)
theorem region20 {w:World} (hR:IsReg 20 ops) (E:E20 X a0) (hsz:a0.tmps.size = 353) (hcm:CmAt w0 own0 b g lc N X 30 w)
 (hQ:∀ (P:Nat → Nat) (a:Act) (w':World),a.tmps.size = 353 → a.defers = a0.defers → (∀ n,n < 186 → n ≠ 15 → a.tmps[n]? = a0.tmps[n]?) → (∀ n,227 ≤ n → a.tmps[n]? = a0.tmps[n]?) → Sl a 15 (.slice (some ⟨P 40,0,none⟩) 8 8) → CmAt w0 own0 b g lc N ((P 40,objS P) :: (sl8.map (fun i => (P i.1,objC i.2)) ++ X)) 30 w' → Q .normal a w') :
 (Code.region 20 ops true).wp Tryz.prog Q a0 w:=by
 have hs:=size20 hR
 refine wp_region_inv (I20 b g lc N w0 own0 X a0) ?_ ?_ ?_
 · rw [hs]
   have hf:∀ i,(Array.replicate 42 false).getD i false = false:=fun i => by
    simp only [Array.getD_eq_getD_getElem?,Array.getElem?_replicate]
    split <;> rfl
   refine ⟨fun _ => 0,{ sz:=hsz,df:=rfl,lo:=fun _ _ _ => rfl,up:=fun _ _ => rfl,d40:=fun h => ?_,d41:=fun h => ?_,cm:=?_,vals:=fun i _ h => ?_ }⟩
   · rw [hf] at h;cases h
   · rw [hf] at h;cases h
   · have:keep20 (Array.replicate 42 false) (fun _ => 0) = []:=by unfold keep20;simp only [hf];simp
     rw [this]
     exact hcm.below (Below.refl _ _).drew
   · rw [hf] at h;cases h
 · rintro l a w' ⟨P,h⟩ hl i hi
   rw [hs] at hl
   have hi':i < 42:=by
    obtain ⟨_,o,ho,_⟩:=mem_ready.1 hi
    have:=(Array.getElem?_eq_some_iff.1 ho).1
    omega
   exact step20 hR E i hi' P l a w' h hl hi
 · rintro l a w' ⟨P,h⟩ hl hr
   have hall:=all_listed hl (op_back hs (back20 hR)) hr
   rw [hs] at hall
   refine hQ P a w' h.sz h.df h.lo h.up (h.vals 41 (by decide) (hall 41 (by decide))) (h.cm.sub fun x hx => ?_)
   unfold keep20
   rw [hall 40 (by decide)]
   rcases List.mem_cons.1 hx with rfl | hx
   · simp
   · rcases List.mem_append.1 hx with hx | hx
     · refine List.mem_append.2 (Or.inl (List.mem_append.2 (Or.inl ?_)))
       obtain ⟨j,hj,rfl⟩:=List.mem_map.1 hx
       refine List.mem_map.2 ⟨j,List.mem_filter.2 ⟨hj,hall _ ?_⟩,rfl⟩
       have:(sl8.all fun j => decide (j.1 < 42)) = true:=by decide +kernel
       simpa using List.all_eq_true.1 this j hj
     · exact List.mem_append.2 (Or.inr hx)
end
@[reducible] def dcSV (x:SV):Decidable (SVOk x):=decidable_of_iff ((1 ≤ x.k ∧ x.k ≤ 5) ∧ (-9223372036854775808 ≤ x.n ∧ x.n ≤ 9223372036854775807) ∧ (x.k = 4 → 0 ≤ x.n ∧ x.n ≤ 1000) ∧ x.s.length ≤ 100 ∧ x.l.length ≤ 4 ∧ ∀ y ∈ x.l,-9223372036854775808 ≤ y ∧ y ≤ 9223372036854775807) ⟨fun ⟨a,b,c,d,e,f⟩ => ⟨a,b,c,d,e,f⟩,fun h => ⟨h.kind,h.num,h.ref,h.text,h.few,h.nums⟩⟩
@[reducible] def dcNil (l:List SV):Decidable (l = []):=match l with | [] => isTrue rfl | _ :: _ => isFalse (by simp)
@[reducible] def dcFit (L:List CompS) (m:Nat) (e:Ent):Decidable (EntFit L m e):=by unfold EntFit;have:=dcSV;have:=dcNil;exact inferInstance
@[reducible] def dcW (L:List CompS) (e:Ent):Decidable (EntW L e):=by unfold EntW;have:=dcSV;have:=dcNil;exact inferInstance
def saneR (L:List CompS) (S:St):Bool:=(List.range 20).all fun i => !S.tk i || (List.range 6).all fun k => (List.range 4).all fun f => !(kindAt L k f == 4) || (!decide (f < cntC (S.cp i) L k) || (decide (0 ≤ (S.vals i k f).p) && decide ((S.vals i k f).p ≤ 20)))
theorem saneR_sane {L:List CompS} {S:St} (hL:L.length ≤ 6) (hkl:∀ k,((kinds L).getD k []).length ≤ 4) (hz:Sized S) (h:saneR L S = true):Sane L S:=fun i hi ht => by
 refine ⟨fun k f h4 hf => ?_,fun k f => (hz i k f).1⟩
 have hk:k < 6:=by
  rcases Nat.lt_or_ge k 6 with q | q
  · exact q
  · unfold kindAt at h4
    rw [kinds_out L k (by omega)] at h4
    simp at h4
 have hf4:f < 4:=by
  rcases Nat.lt_or_ge f 4 with q | q
  · exact q
  · have:=hkl k
    unfold kindAt at h4
    rw [List.getD_eq_getElem?_getD,List.getElem?_eq_none (by omega)] at h4
    simp at h4
 unfold saneR at h
 simp only [List.all_eq_true,List.mem_range,Bool.or_eq_true,Bool.not_eq_true',Bool.and_eq_true,decide_eq_true_eq,decide_eq_false_iff_not,beq_eq_false_iff_ne] at h
 rcases h i hi with q | q
 · rw [ht] at q;cases q
 · rcases q k hk f hf4 with q | q | q
   · exact absurd h4 q
   · exact absurd hf q
   · exact q
def rT:List UInt8:=[115,99,101,110,101,10,101,10,112,111,115,32,120,61,49,32,121,61,50,10,108,105,110,107,32,116,111,61,64,48,32,110,101,120,116,61,45,10,101,110,100,10]
def rSc:List Ent:=[⟨5,[[⟨1,1,[],[]⟩,⟨1,2,[],[]⟩],[],[⟨4,1,[],[]⟩,⟨4,0,[],[]⟩],[],[],[]]⟩]
def xsOf (c:Nat):List OvV:=(ovsAt c).map fun o => ⟨o,none,0⟩
def rHs:List (Int × Int):=handsN (stK 30) (setsOf rSc) 1
def stP:St:={ spawnN (stK 30) (setsOf rSc) 1 with vals:=fillN rL (stK 30) (setsOf rSc) rSc rHs (spawnN (stK 30) (setsOf rSc) 1).vals 1 }
def stQ:St:=putK rL rHs stP (xsOf 0) 3
def atR:List Int:=[0,0,1,0,0,2,0,0]
set_option maxRecDepth 100000
theorem r_read:readTextL rL rT = some rSc:=by kernel_rfl
theorem r_noread:readTextL rL [120] = none:=by decide +kernel
theorem r_room:decide (1 ≤ roomN (stK 30).bg (stK 30).tk 20) = true:=by decide +kernel
theorem r_fit:EntFit rL 1 (entAt rSc 0):=@of_decide_eq_true _ (dcFit rL 1 (entAt rSc 0)) (by kernel_rfl)
theorem r_wr0:wrongN rL (stK 30) (setsOf rSc) (xsOf 0) = -1:=by decide +kernel
theorem r_wr:((List.range 8).all fun k => k == 0 || wrongN rL stQ (setsOf rSc) (xsOf k) == atR.getD k 0) = true:=by decide +kernel
theorem r_hs:rHs = [(2,2)]:=by decide +kernel
theorem r_sane0:saneR rL (stK 30) = true:=by decide +kernel
theorem r_sane1:saneR rL stQ = true:=by decide +kernel
theorem r_w0:((backL rL (stK 30)).all fun e => @decide (EntW rL e) (dcW rL e)) = true:=by kernel_rfl
theorem r_w1:((backL rL stQ).all fun e => @decide (EntW rL e) (dcW rL e)) = true:=by kernel_rfl
theorem r_next:(findFieldP rL stQ 2 2 [108,105,110,107] [110,101,120,116]).2.2 = 0 ∧ getK rL stQ 2 2 [108,105,110,107] [110,101,120,116] = 4 ∧ gP 4 (getX rL stQ 2 2 [108,105,110,107] [110,101,120,116]) = 1 ∧ gQ 4 (getX rL stQ 2 2 [108,105,110,107] [110,101,120,116]) = 1:=by decide +kernel
theorem r_to:(findFieldP rL stQ 2 2 [108,105,110,107] [116,111]).2.2 = 0 ∧ getK rL stQ 2 2 [108,105,110,107] [116,111] = 4 ∧ gP 4 (getX rL stQ 2 2 [108,105,110,107] [116,111]) = 2 ∧ gQ 4 (getX rL stQ 2 2 [108,105,110,107] [116,111]) = 2:=by decide +kernel
theorem r_x:(findFieldP rL stQ 2 2 [112,111,115] [120]).2.2 = 0 ∧ getK rL stQ 2 2 [112,111,115] [120] = 1 ∧ gN 1 (getX rL stQ 2 2 [112,111,115] [120]) = 6:=by decide +kernel
theorem r_kl:∀ k,((kinds rL).getD k []).length ≤ 4:=fun k => by
 rcases Nat.lt_or_ge k 6 with q | q
 · have:∀ k,k < 6 → ((kinds rL).getD k []).length ≤ 4:=by decide +kernel
   exact this k q
 · rw [kinds_out rL k (show rL.length ≤ k from q)]
   simp
def CmS (w0:World) (own0:Nat → Nat) (b g lc N:Nat) (X:List (Nat × Obj)) (S:St) (w:World):Prop:=∃ own lv,Stp w0 own0 w own ∧ WT w own b g lc N rL { S with lv:=lv } ∧ Kept X w own
theorem CmS.below {w0 w w':World} {own0:Nat → Nat} {b g lc N:Nat} {X:List (Nat × Obj)} {S:St} (h:CmS w0 own0 b g lc N X S w) (hb:Below w.heap.size w w'):CmS w0 own0 b g lc N X S w':=by
 obtain ⟨own,lv,h1,h2,h3⟩:=h
 exact ⟨own,lv,h1.trans (Stp.below hb),h2.below hb,h3.step (Stp.below hb)⟩
theorem CmS.alloc {w0 w:World} {own0:Nat → Nat} {b g lc N:Nat} {X:List (Nat × Obj)} {S:St} (h:CmS w0 own0 b g lc N X S w) (cs:Array Value) (t:TypeId):CmS w0 own0 b g lc N ((w.heap.size,.cells cs t (0,0)) :: X) S (w.alloc (.cells cs t)):=by
 have hb:Below w.heap.size w (w.alloc (.cells cs t)):=(Below.refl _ _).alloc (Nat.le_refl _) _
 obtain ⟨own,lv,h1,h2,h3⟩:=h
 refine ⟨own,lv,h1.trans (Stp.below hb),h2.below hb,fun x hx => ?_⟩
 rcases List.mem_cons.1 hx with rfl | hx
 · exact ⟨by simp,h2.out _ (Nat.le_refl _),heap_alloc_at rfl _⟩
 · exact (h3.step (Stp.below hb)) x hx
theorem CmS.has {w0 w:World} {own0:Nat → Nat} {b g lc N:Nat} {X:List (Nat × Obj)} {S:St} (h:CmS w0 own0 b g lc N X S w) {q:Nat} {ob:Obj} (hq:(q,ob) ∈ X):q < w.heap.size ∧ w.heap[q]? = some ob:=by
 obtain ⟨_,_,_,_,h3⟩:=h
 exact ⟨(h3 _ hq).1,(h3 _ hq).2.2⟩
theorem CmS.sub {w0 w:World} {own0:Nat → Nat} {b g lc N:Nat} {X Y:List (Nat × Obj)} {S:St} (h:CmS w0 own0 b g lc N X S w) (hs:∀ x ∈ Y,x ∈ X):CmS w0 own0 b g lc N Y S w:=by
 obtain ⟨own,lv,h1,h2,h3⟩:=h
 exact ⟨own,lv,h1,h2,fun x hx => h3 x (hs x hx)⟩
theorem CmAt.toS {w0 w:World} {own0:Nat → Nat} {b g lc N:Nat} {X:List (Nat × Obj)} (h:CmAt w0 own0 b g lc N X 30 w):CmS w0 own0 b g lc (N + 30) X (stK 30) w:=h
theorem CmS.glob {w0 w:World} {b g lc N:Nat} {X:List (Nat × Obj)} {S:St} (h:CmS w0 (ownB b) b g lc N X S w) (hG:Glob w0) (hb:11 ≤ b):Glob w:=by
 obtain ⟨_,_,h1,_,_⟩:=h
 refine hG.turns h1.1 fun k hk => ?_
 unfold Tur ownB at hk
 by_cases e:k = b
 · omega
 · simp [e] at hk
theorem backLv (L:List CompS) (S:St) (lv:Nat → Nat → Nat → Value):backL L { S with lv:=lv } = backL L S:=rfl
theorem saneLv {L:List CompS} {S:St} (h:Sane L S) (lv:Nat → Nat → Nat → Value):Sane L { S with lv:=lv }:=h
theorem wrongLv (L:List CompS) (S:St) (lv:Nat → Nat → Nat → Value) (cs:List Nat):∀ xs,wrongN L { S with lv:=lv } cs xs = wrongN L S cs xs
 | [] => rfl
 | x :: xs => by
   unfold wrongN
   rw [wrongLv L S lv cs xs]
   rfl
theorem getXLv (L:List CompS) (S:St) (lv:Nat → Nat → Nat → Value) (p l:Int) (nm fn:List UInt8):getX L { S with lv:=lv } p l nm fn = getX L S p l nm fn:=rfl
theorem getKLv (L:List CompS) (S:St) (lv:Nat → Nat → Nat → Value) (p l:Int) (nm fn:List UInt8):getK L { S with lv:=lv } p l nm fn = getK L S p l nm fn:=rfl
theorem findLv (L:List CompS) (S:St) (lv:Nat → Nat → Nat → Value) (p l:Int) (nm fn:List UInt8):findFieldP L { S with lv:=lv } p l nm fn = findFieldP L S p l nm fn:=rfl
theorem s_save {w0 w:World} {b g lc N:Nat} {X:List (Nat × Obj)} {S:St} (h:CmS w0 (ownB b) b g lc N X S w) (hG:Glob w0) (hb:11 ≤ b) (hs:Sane rL S) (hE:((backL rL S).all fun e => @decide (EntW rL e) (dcW rL e)) = true) :
 Calls Tryz.prog 17 #[.pointer (some ⟨b,0,none⟩)] w fun e w' => e = .returned (.string (mk (textTx rL (backL rL S)))) ∧ Below w.heap.size w w':=by
 have hg:=h.glob hG hb
 obtain ⟨own,lv,h1,h2,h3⟩:=h
 have:=save_wt own b g lc N rL _ w h2 (saneLv hs lv) (fun j hj => by
  rw [backLv] at hj ⊢
  have hm:entAt (backL rL S) j ∈ backL rL S:=by
   unfold entAt
   rw [List.getD_eq_getElem?_getD,List.getElem?_eq_getElem hj]
   exact List.getElem_mem hj
  exact @of_decide_eq_true _ (dcW rL _) (List.all_eq_true.1 hE _ hm)) (fun w' hb => (hg.below hg.size hb hb.size).tab)
 rw [backLv] at this
 exact this
theorem fm9:∀ (l:List Ov) (j:Nat) (h:j < l.length) (o:Nat),o < 9 → (l.flatMap ovc)[j * 9 + o]? = (ovc l[j])[o]?
 | [],j,h,o,ho => by simp at h
 | x :: l,0,h,o,ho => by
   rw [List.flatMap_cons,List.getElem?_append_left (by show _ < 9;omega)]
   simp
 | x :: l,j + 1,h,o,ho => by
   have ih:=fm9 l j (by simpa using h) o ho
   rw [List.flatMap_cons,List.getElem?_append_right (by show 9 ≤ _;omega)]
   show (l.flatMap ovc)[(j + 1) * 9 + o - 9]? = _
   rw [show (j + 1) * 9 + o - 9 = j * 9 + o by omega,ih]
   simp
theorem ovs_flat:(ovs.all fun l => l.all fun o => o.ls.isEmpty && (decide (o.s.length ≤ 1000) && decide (o.s.length ≤ 1000))) = true:=by decide +kernel
theorem ovsAt_ls (c:Nat):∀ o ∈ ovsAt c,o.ls = [] ∧ o.s.length ≤ 1000:=fun o ho => by
 unfold ovsAt at ho
 rw [List.getD_eq_getElem?_getD] at ho
 rcases hq:ovs[c]? with _ | l
 · rw [hq] at ho;simp at ho
 · rw [hq] at ho
   have h1:=List.all_eq_true.1 ovs_flat l (List.mem_of_getElem? hq)
   have h2:=List.all_eq_true.1 h1 o ho
   simp only [Bool.and_eq_true,List.isEmpty_iff,decide_eq_true_eq] at h2
   exact ⟨h2.1,h2.2.1⟩
theorem xsOf_len (c:Nat):(xsOf c).length = (ovsAt c).length:=by simp [xsOf]
theorem overs_of {w:World} {q c:Nat} (h1:q < w.heap.size) (h2:w.heap[q]? = some (objC c)):OversAt w q (xsOf c):=by
 refine ⟨h1,fun j hj o ho => ?_⟩
 have hj':j < (ovsAt c).length:=by rw [← xsOf_len];exact hj
 have e:(xsOf c)[j] = ⟨(ovsAt c)[j],none,0⟩:=by simp [xsOf]
 have hl:=(ovsAt_ls c _ (List.getElem_mem hj')).1
 rw [e]
 simp only [hl]
 have hf:=fm9 (ovsAt c) j hj' o ho
 have:((ovsAt c).flatMap ovc)[j * 9 + o]? = (ovCells (ovsAt c)[j] (mk (ovsAt c)[j].s) (mk (ovsAt c)[j].c) (mk (ovsAt c)[j].f) none 0 0)[o]?:=by
  rw [hf]
  unfold ovCells ovc
  simp
 rw [show w.cell? ⟨q,j * 9 + o,none⟩ = ((ovsAt c).flatMap ovc)[j * 9 + o]? by rw [cell_row h2];simp]
 exact this
theorem s_putk {w0 w:World} {b g lc N:Nat} {X:List (Nat × Obj)} (h:CmS w0 (ownB b) b g lc N X stQ w) (hG:Glob w0) (hb:11 ≤ b) (k q oc:Nat) (hk:k < 8) (hk0:k ≠ 0) (hX:(q,objC k) ∈ X) :
 Calls Tryz.prog 40 #[.pointer (some ⟨b,0,none⟩),.string (mk rT),.slice (some ⟨q,0,none⟩) (ovsAt k).length oc] w fun e w' => e = .returned (.tuple #[.slice none 0 0,.int .i64 11,.int .i64 (atR.getD k 0)]) ∧ Below w.heap.size w w':=by
 have hg:=h.glob hG hb
 have hq:=h.has hX
 obtain ⟨own,lv,h1,h2,h3⟩:=h
 have hw:=List.all_eq_true.1 r_wr k (List.mem_range.2 hk)
 simp only [Bool.or_eq_true,beq_iff_eq,hk0,false_or] at hw
 have hpos:∀ k,k < 8 → 0 ≤ atR.getD k 0:=by decide +kernel
 have hfew:∀ k,k < 8 → (ovsAt k).length ≤ 100:=by decide +kernel
 have:=put_wrong h2 hg rT (by decide) rSc r_read (by decide) (by decide) q oc (xsOf k) (by rw [xsOf_len];exact hfew k hk) (overs_of hq.1 hq.2) (by rw [wrongLv,hw];exact hpos k hk)
 rw [wrongLv,hw,xsOf_len] at this
 exact this
theorem s_putN {w0 w:World} {b g lc N:Nat} {X:List (Nat × Obj)} {S:St} (h:CmS w0 (ownB b) b g lc N X S w) (hG:Glob w0) (hb:11 ≤ b) (v:Value) :
 Calls Tryz.prog 40 #[.pointer (some ⟨b,0,none⟩),.string (mk [120]),v] w fun e w' => e = .returned (.tuple #[.slice none 0 0,.int .i64 10,.int .i64 0]) ∧ Below w.heap.size w w':=by
 have hg:=h.glob hG hb
 obtain ⟨own,lv,h1,h2,h3⟩:=h
 exact put_none h2 hg [120] (by decide) r_noread v
theorem Sized.spawn {S:St} (h:Sized S) (i c:Nat):Sized (S.spawn i c):=fun j k f => by
 unfold St.spawn upd
 simp only
 split
 · exact sized_zero
 · exact h j k f
theorem sized_fill {L:List CompS} {V:Nat → Nat → Nat → FV} {e:Ent} {m:Nat} (h:∀ i k f,(V i k f).ls.length ≤ 100 ∧ (V i k f).s.length ≤ 1000) (hf:EntFit L m e) (i:Nat) (hs:List (Int × Int)):∀ i' k f,(fillV L V i e hs 6 0 i' k f).ls.length ≤ 100 ∧ (fillV L V i e hs 6 0 i' k f).s.length ≤ 1000:=fun i' k f => by
 unfold fillV
 split
 · rename_i hc
   have hk:k < 6:=by omega
   have h1:=((hf.2 k hk).2 f hc.2.2).2.1
   have h2:=h1.few
   have h3:=h1.text
   refine Sized.norm ?_
   unfold fvOf
   exact ⟨by simp only;omega,by simp only;omega⟩
 · exact h i' k f
theorem sized_stP:Sized stP:=fun i k f => sized_fill (V:=((stK 30).spawn (firstFree (stK 30).bg (stK 30).tk) 5).vals) ((sized_stK 30 (by omega)).spawn _ _) r_fit _ _ i k f
theorem Sized.putO {S:St} (h:Sized S) (L:List CompS) (hs:List (Int × Int)) (o:Ov) (h1:o.ls = []) (h2:o.s.length ≤ 1000):Sized (stepO L hs S o):=by
 unfold stepO
 split
 · exact h.set _ _ _ _ _ _ ⟨by simp [h1],h2⟩
 · exact h
theorem Sized.putN {S:St} (h:Sized S) (L:List CompS) (hs:List (Int × Int)) (xs:List OvV) (hx:∀ o ∈ xs.map OvV.o,o.ls = [] ∧ o.s.length ≤ 1000):∀ k,Sized (putK L hs S xs k)
 | 0 => h
 | k + 1 => by
   refine (Sized.putN h L hs xs hx k).putO L hs _ ?_ ?_
   · rw [List.getD_eq_getElem?_getD]
     rcases hq:(xs.map OvV.o)[k]? with _ | o
     · rfl
     · exact (hx o (List.mem_of_getElem? hq)).1
   · rw [List.getD_eq_getElem?_getD]
     rcases hq:(xs.map OvV.o)[k]? with _ | o
     · exact Nat.zero_le _
     · exact (hx o (List.mem_of_getElem? hq)).2
theorem sized_stQ:Sized stQ:=sized_stP.putN rL rHs (xsOf 0) (fun o ho => ovsAt_ls 0 o (by unfold xsOf at ho;simpa using ho)) 3
theorem sane0:Sane rL (stK 30):=saneR_sane (by decide) r_kl (sized_stK 30 (by omega)) r_sane0
theorem sane1:Sane rL stQ:=saneR_sane (by decide) r_kl sized_stQ r_sane1
theorem putEq (L:List CompS) (S:St) (cs:List Nat) (sc:List Ent) (xs:List OvV) (m:Nat) (lv lv':Nat → Nat → Nat → Value):({ putK L (handsN { S with lv:=lv } cs 1) { spawnN { S with lv:=lv } cs 1 with vals:=fillN L { S with lv:=lv } cs sc (handsN { S with lv:=lv } cs 1) (spawnN { S with lv:=lv } cs 1).vals 1 } xs m with lv:=lv' }:St) = { putK L (handsN S cs 1) { spawnN S cs 1 with vals:=fillN L S cs sc (handsN S cs 1) (spawnN S cs 1).vals 1 } xs m with lv:=lv' } :=
 putK_lv L (handsN S cs 1) { spawnN S cs 1 with vals:=fillN L S cs sc (handsN S cs 1) (spawnN S cs 1).vals 1 } xs (spawnN { S with lv:=lv } cs 1).lv lv' m
theorem handsLv (S:St) (cs:List Nat) (lv:Nat → Nat → Nat → Value):handsN { S with lv:=lv } cs 1 = handsN S cs 1:=rfl
theorem s_putS {w0 w:World} {b g lc N:Nat} {X:List (Nat × Obj)} {S:St} (h:CmS w0 (ownB b) b g lc N X S w) (hG:Glob w0) (hb:11 ≤ b) (q:Nat) (hX:(q,objC 0) ∈ X) (hN:N + 1 ≤ 1000) (hN1:1 ≤ N) (hroom:1 ≤ roomN S.bg S.tk 20) (hw:wrongN rL S (setsOf rSc) (xsOf 0) = -1) (hhs:handsN S (setsOf rSc) 1 = [(2,2)]) :
 Calls Tryz.prog 40 #[.pointer (some ⟨b,0,none⟩),.string (mk rT),.slice (some ⟨q,0,none⟩) 3 3] w fun e w' => ∃ (hg hc:Nat) (cur:Array Value),e = .returned (.tuple #[.slice (some ⟨hg,0,none⟩) 1 hc,.int .i64 0,.int .i64 0]) ∧ 1 ≤ hc ∧ cur[0]? = some (.int .i64 2) ∧ cur[1]? = some (.int .i64 2) ∧ Hid (CmS w0 (ownB b) b g lc (N + 1) ((hg,.cells cur 46 (0,0)) :: X) (putK rL (handsN S (setsOf rSc) 1) { spawnN S (setsOf rSc) 1 with vals:=fillN rL S (setsOf rSc) rSc (handsN S (setsOf rSc) 1) (spawnN S (setsOf rSc) 1).vals 1 } (xsOf 0) 3) w'):=by
 have hg:=h.glob hG hb
 have hq:=h.has hX
 obtain ⟨own,lv,h1,h2,h3⟩:=h
 have hov:∀ j (h:j < (xsOf 0).length),((xsOf 0)[j].va = none ∧ (xsOf 0)[j].o.ls = [] ∧ (xsOf 0)[j].vc = 0) ∧ (xsOf 0)[j].o.s.length ≤ 1000 ∧ 0 ≤ (xsOf 0)[j].o.e ∧ (xsOf 0)[j].o.e < (rSc.length:Int):=by decide +kernel
 have hw0:wrongN rL { S with lv:=lv } (setsOf rSc) (xsOf 0) = -1:=by rw [wrongLv];exact hw
 have hl1:rT.length ≤ 2 ^ 40:=by decide
 have hl2:1 ≤ rSc.length:=by decide
 have hl3:rSc.length ≤ 20:=by decide
 have hl4:(xsOf 0).length ≤ 100:=by decide +kernel
 refine (put_ok h2 hg rT hl1 rSc r_read hl2 hl3 hroom hN hN1 (fun j hj => by
  have e:j = 0:=by have:rSc.length = 1:=rfl;omega
  subst e
  exact r_fit) q 3 (xsOf 0) hl4 (overs_of hq.1 hq.2) (h3 _ hX).2.1 hov hw0).mono ?_
 rintro e w' ⟨hg',hc,rfl,q1,q2,own',lv',q3,q4,q5⟩
 have eh:handsN { S with lv:=lv } (setsOf rSc) rSc.length = [(2,2)]:=(handsLv S (setsOf rSc) lv).trans hhs
 rw [eh] at q1
 have d0:=own_cells q1 0 _ rfl
 have d1:=own_cells q1 1 _ rfl
 rcases q1.2 with ⟨z,_⟩ | ⟨g',c',cur,z,_,hblk,hc1,_⟩
 · cases z
 cases z
 rw [cell_row hblk] at d0 d1
 refine ⟨hg',hc,cur,rfl,hc1,d0,d1,own',lv',h1.trans q3,?_,fun x hx => ?_⟩
 rotate_left
 · rcases List.mem_cons.1 hx with rfl | hx
   · exact ⟨(Array.getElem?_eq_some_iff.1 hblk).1,q4,hblk⟩
   · exact h3.step q3 x hx
 have e2:=putEq rL S (setsOf rSc) rSc (xsOf 0) 3 lv lv'
 have e3:WT w' own' b g lc (N + 1) rL { putK rL (handsN { S with lv:=lv } (setsOf rSc) 1) { spawnN { S with lv:=lv } (setsOf rSc) 1 with vals:=fillN rL { S with lv:=lv } (setsOf rSc) rSc (handsN { S with lv:=lv } (setsOf rSc) 1) (spawnN { S with lv:=lv } (setsOf rSc) 1).vals 1 } (xsOf 0) 3 with lv:=lv' }:=q5
 rw [e2] at e3
 exact e3
theorem s_put0 {w0 w:World} {b g lc N:Nat} {X:List (Nat × Obj)} (h:CmS w0 (ownB b) b g lc N X (stK 30) w) (hG:Glob w0) (hb:11 ≤ b) (q:Nat) (hX:(q,objC 0) ∈ X) (hN:N + 1 ≤ 1000) (hN1:1 ≤ N) :
 Calls Tryz.prog 40 #[.pointer (some ⟨b,0,none⟩),.string (mk rT),.slice (some ⟨q,0,none⟩) 3 3] w fun e w' => ∃ (hg hc:Nat) (cur:Array Value),e = .returned (.tuple #[.slice (some ⟨hg,0,none⟩) 1 hc,.int .i64 0,.int .i64 0]) ∧ 1 ≤ hc ∧ cur[0]? = some (.int .i64 2) ∧ cur[1]? = some (.int .i64 2) ∧ Hid (CmS w0 (ownB b) b g lc (N + 1) ((hg,.cells cur 46 (0,0)) :: X) stQ w'):=by
 have hroom:1 ≤ roomN (stK 30).bg (stK 30).tk 20:=of_decide_eq_true r_room
 exact s_putS h hG hb q hX hN hN1 hroom r_wr0 r_hs
theorem s_get {w0 w:World} {own0:Nat → Nat} {b g lc N:Nat} {X:List (Nat × Obj)} {S:St} (h:CmS w0 own0 b g lc N X S w) (hz:Sized S) (nm fn:List UInt8) (h0:(findFieldP rL S 2 2 nm fn).2.2 = 0) (kd:Nat) (hk:getK rL S 2 2 nm fn = kd) :
 Calls Tryz.prog 41 #[.pointer (some ⟨b,0,none⟩),.agg #[.int .i64 2,.int .i64 2],.string (mk nm),.string (mk fn)] w fun e w' => ∃ s la ln lc,e = .returned (.tuple #[.agg #[.int .i64 kd,.int .i64 (gN kd (getX rL S 2 2 nm fn)),.string s,.int .i64 (gP kd (getX rL S 2 2 nm fn)),.int .i64 (gQ kd (getX rL S 2 2 nm fn)),.slice la ln lc],.int .i64 0]) ∧ Below w.heap.size w w':=by
 obtain ⟨own,lv,h1,h2,h3⟩:=h
 have:=get_w h2 2 2 nm fn (by rw [findLv];exact h0) (by rw [getXLv];exact (hz _ _ _).1)
 rw [getKLv,getXLv,hk] at this
 refine this.mono ?_
 rintro e w' ⟨la,ln,lc',rfl,hb⟩
 exact ⟨_,la,ln,lc',rfl,hb⟩
set_option maxRecDepth 100000 in
theorem lay20 (a:Act) (hs:a.tmps.size = 353) (hd:a.defers = []) (v1 v3 v12 v15:Value) (s1:Sl a 1 v1) (s3:Sl a 3 v3) (s12:Sl a 12 v12) (s15:Sl a 15 v15):∃ f:Nat → Value,a = { tmps:=#[f 0,v1,f 2,v3,f 4,f 5,f 6,f 7,f 8,f 9,f 10,f 11,v12,f 13,f 14,v15,f 16,f 17,f 18,f 19,f 20,f 21,f 22,f 23,f 24,f 25,f 26,f 27,f 28,f 29,f 30,f 31,f 32,f 33,f 34,f 35,f 36,f 37,f 38,f 39,f 40,f 41,f 42,f 43,f 44,f 45,f 46,f 47,f 48,f 49,f 50,f 51,f 52,f 53,f 54,f 55,f 56,f 57,f 58,f 59,f 60,f 61,f 62,f 63,f 64,f 65,f 66,f 67,f 68,f 69,f 70,f 71,f 72,f 73,f 74,f 75,f 76,f 77,f 78,f 79,f 80,f 81,f 82,f 83,f 84,f 85,f 86,f 87,f 88,f 89,f 90,f 91,f 92,f 93,f 94,f 95,f 96,f 97,f 98,f 99,f 100,f 101,f 102,f 103,f 104,f 105,f 106,f 107,f 108,f 109,f 110,f 111,f 112,f 113,f 114,f 115,f 116,f 117,f 118,f 119,f 120,f 121,f 122,f 123,f 124,f 125,f 126,f 127,f 128,f 129,f 130,f 131,f 132,f 133,f 134,f 135,f 136,f 137,f 138,f 139,f 140,f 141,f 142,f 143,f 144,f 145,f 146,f 147,f 148,f 149,f 150,f 151,f 152,f 153,f 154,f 155,f 156,f 157,f 158,f 159,f 160,f 161,f 162,f 163,f 164,f 165,f 166,f 167,f 168,f 169,f 170,f 171,f 172,f 173,f 174,f 175,f 176,f 177,f 178,f 179,f 180,f 181,f 182,f 183,f 184,f 185,f 186,f 187,f 188,f 189,f 190,f 191,f 192,f 193,f 194,f 195,f 196,f 197,f 198,f 199,f 200,f 201,f 202,f 203,f 204,f 205,f 206,f 207,f 208,f 209,f 210,f 211,f 212,f 213,f 214,f 215,f 216,f 217,f 218,f 219,f 220,f 221,f 222,f 223,f 224,f 225,f 226,f 227,f 228,f 229,f 230,f 231,f 232,f 233,f 234,f 235,f 236,f 237,f 238,f 239,f 240,f 241,f 242,f 243,f 244,f 245,f 246,f 247,f 248,f 249,f 250,f 251,f 252,f 253,f 254,f 255,f 256,f 257,f 258,f 259,f 260,f 261,f 262,f 263,f 264,f 265,f 266,f 267,f 268,f 269,f 270,f 271,f 272,f 273,f 274,f 275,f 276,f 277,f 278,f 279,f 280,f 281,f 282,f 283,f 284,f 285,f 286,f 287,f 288,f 289,f 290,f 291,f 292,f 293,f 294,f 295,f 296,f 297,f 298,f 299,f 300,f 301,f 302,f 303,f 304,f 305,f 306,f 307,f 308,f 309,f 310,f 311,f 312,f 313,f 314,f 315,f 316,f 317,f 318,f 319,f 320,f 321,f 322,f 323,f 324,f 325,f 326,f 327,f 328,f 329,f 330,f 331,f 332,f 333,f 334,f 335,f 336,f 337,f 338,f 339,f 340,f 341,f 342,f 343,f 344,f 345,f 346,f 347,f 348,f 349,f 350,f 351,f 352],defers:=[] }:=by
 obtain ⟨t,d⟩:=a
 simp only at hs hd
 subst hd
 refine ⟨fun i => t.getD i undef,?_⟩
 have e:=arr_as t hs
 have g:∀ {n:Nat} {v:Value},Sl ⟨t,[]⟩ n v → t.getD n undef = v:=fun {n v} h => by
  unfold Sl at h
  simp only at h
  rw [Array.getD_eq_getD_getElem?,h]
  rfl
 have e1:=g s1
 have e3:=g s3
 have e12:=g s12
 have e15:=g s15
 rw [← e1,← e3,← e12,← e15]
 exact congrArg (fun x => ({ tmps:=x,defers:=[] }:Act)) e
theorem want_cell {w:World} {q k:Nat} (h:w.heap[q]? = some objD) (hk:k < 30):w.cell? ⟨q,k,none⟩ = some (.int .i64 (wantR.getD k 0)):=by
 refine cell_at h ?_
 have hl:k < wantR.length:=hk
 simp [List.getD_eq_getElem?_getD,hl]
theorem want_cells {w0 w:World} {own0:Nat → Nat} {b g lc N k' D D2:Nat} {X:List (Nat × Obj)} (h:CmAt w0 own0 b g lc N ((D2,objD) :: (D,objD) :: X) k' w) {k:Nat} (hk:k < 30):w.cell? ⟨D,k,none⟩ = some (.int .i64 (wantR.getD k 0)) ∧ w.cell? ⟨D2,k,none⟩ = some (.int .i64 (wantR.getD k 0)) :=
 ⟨want_cell (h.has (by simp)) hk,want_cell (h.has (by simp)) hk⟩
def keptR (D2 D qm qn qu qh:Nat):List (Nat × Obj):=[(D2,objD),(D,objD),(qm,Obj.cells #[.int .i64 1,.int .i64 1,.string ⟨#[]⟩,.int .i64 0,.int .i64 0,.slice none 0 0] 56 (0,0)),(qn,Obj.cells #[.int .i64 0,.int .i64 0] 46 (0,0)),(qu,Obj.cells #[.int .i64 2,.int .i64 1] 46 (0,0)),(qh,Obj.cells #[.int .i64 1,.int .i64 1] 46 (0,0))]
theorem box_h {w0 w:World} {own0:Nat → Nat} {b g lc N k' D D2 qm qn qu qh:Nat} (h:CmAt w0 own0 b g lc N (keptR D2 D qm qn qu qh) k' w):w.cell? ⟨qh,0,none⟩ = some (.int .i64 1) ∧ w.cell? ⟨qh,1,none⟩ = some (.int .i64 1):=by
 have hh:=h.has (q:=qh) (ob:=Obj.cells #[.int .i64 1,.int .i64 1] 46 (0,0)) (by unfold keptR;simp)
 exact ⟨cell_at hh rfl,cell_at hh rfl⟩
theorem cases_at {w0 w:World} {own0:Nat → Nat} {b g lc N q:Nat} {X:List (Nat × Obj)} {S:St} {P:Nat → Nat} (h:CmS w0 own0 b g lc N X S w) (hX:(q,objS P) ∈ X) (k:Nat) (hk:k < 8):w.cell? ⟨q,k,none⟩ = some (.slice (some ⟨P (sl8.getD k (0,0)).1,0,none⟩) (ovsAt k).length (ovsAt k).length):=by
 have hh:=(h.has hX).2
 match k,hk with
 | 0,_ => exact cell_at hh rfl
 | 1,_ => exact cell_at hh rfl
 | 2,_ => exact cell_at hh rfl
 | 3,_ => exact cell_at hh rfl
 | 4,_ => exact cell_at hh rfl
 | 5,_ => exact cell_at hh rfl
 | 6,_ => exact cell_at hh rfl
 | 7,_ => exact cell_at hh rfl
 | k + 8,hk => exact absurd hk (by omega)
def objT:Obj:=.cells (atR.map (Value.int .i64)).toArray 3 (0,0)
theorem at_cell {w0 w:World} {own0:Nat → Nat} {b g lc N q:Nat} {X:List (Nat × Obj)} {S:St} (h:CmS w0 own0 b g lc N X S w) (hX:(q,objT) ∈ X) (k:Nat) (hk:k < 8):w.cell? ⟨q,k,none⟩ = some (.int .i64 (atR.getD k 0)):=by
 have hh:=(h.has hX).2
 match k,hk with
 | 0,_ => exact cell_at hh rfl
 | 1,_ => exact cell_at hh rfl
 | 2,_ => exact cell_at hh rfl
 | 3,_ => exact cell_at hh rfl
 | 4,_ => exact cell_at hh rfl
 | 5,_ => exact cell_at hh rfl
 | 6,_ => exact cell_at hh rfl
 | 7,_ => exact cell_at hh rfl
 | k + 8,hk => exact absurd hk (by omega)
theorem sl8_mem (k:Nat) (hk:k < 8):((sl8.getD k (0,0)).1,k) ∈ sl8:=by
 match k,hk with
 | 0,_ => decide
 | 1,_ => decide
 | 2,_ => decide
 | 3,_ => decide
 | 4,_ => decide
 | 5,_ => decide
 | 6,_ => decide
 | 7,_ => decide
 | k + 8,hk => exact absurd hk (by omega)
end Go.Proofs.YthkbeaffkcfgiabGreatDoor
