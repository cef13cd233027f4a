import Derived.Test.YthkbeaffkcfgiabGreatDoorR21
set_option linter.unusedSimpArgs false
set_option linter.unusedVariables false
namespace Go.Proofs.YthkbeaffkcfgiabGreatDoor
open Go.RowKit
set_option maxHeartbeats 4000000 in
theorem enter_tabC (own:Nat → Nat) (base tb s:Nat) (cks:List (List Nat)) (ents:List (Int × Int)) (xs:Nat → Nat → List Value) (p l:Int) (w:World) (hT:TabC w own base tb s cks ents xs) (hb1':1 ≤ base) (hkl:∀ k,(cks.getD k []).length ≤ 4) (hkk:∀ k,∀ x ∈ cks.getD k [],1 ≤ x ∧ x ≤ 5)
 (hl:ents.length ≤ 99) (hsort:ents.Pairwise fun a b => a.1 < b.1) (hx1:∀ k f,∀ u ∈ xs k f,u.oneCell' = true) :
 Calls Tryz.prog 190 #[.pointer (some ⟨tb,0,none⟩),.agg #[.int .i64 p,.int .i64 l]] w fun e w' => e = .returned (.tuple #[]) ∧ Turns w w' (fun b => base ≤ own b ∧ own b < base + 32) ∧ ∃ own',(∀ b,b < w.heap.size → own' b = own b) ∧ TabC w' own' base tb s cks (setIn ents (ahead ents p) [(p,l)]) (fun k f => setIn (xs k f) (ahead ents p * kSz ((cks.getD k []).getD f 0)) (kZero ((cks.getD k []).getD f 0))):=by
 obtain ⟨hme,v,sl,hb0,hown,hevb,hcols⟩:=hT
 obtain ⟨cbs,hM⟩:=mix_of hcols
 have hlt:tb < w.heap.size:=(Array.getElem?_eq_some_iff.1 hb0).1
 have HO:Hid (ents.Pairwise fun a b => a.1 < b.1):=hsort
 have HO0:Hid (w.ownsRow 0 46 2 v ents.length (eCells ents)):=hown
 have HV:Hid (∀ k,v.ownBlock = some k → own k = base + 1 ∧ k ≠ tb):=fun k hk => ⟨hevb k hk,fun e => by have:=hevb k hk;rw [e,hme] at this;omega⟩
 have HB0:Hid (w.heap[tb]? = some (.cells #[v,sl 0,sl 1,sl 2,sl 3,sl 4,sl 5] 204 (0,0))):=hb0
 have HMx:Hid (Mix w own base s cks sl cbs (fun _ _ => ents.length) xs):=hM
 have HMe:Hid (own tb = base):=hme
 have HK1:Hid (∀ k,(cks.getD k []).length ≤ 4):=hkl
 have HK2:Hid (∀ k,∀ x ∈ cks.getD k [],1 ≤ x ∧ x ≤ 5):=hkk
 have HX1:Hid (∀ k f,∀ u ∈ xs k f,u.oneCell' = true):=hx1
 clear hme hkl hkk hx1
 have hl:ents.length ≤ 100:=by omega
 obtain ⟨r,hr⟩:∃ r,r = ahead ents p:=⟨_,rfl⟩
 have hrl:r ≤ ents.length:=by rw [hr];exact ahead_le ents p
 have HR:Hid (ahead ents p = r):=hr.symm
 obtain ⟨n,hn⟩:∃ n,n = ents.length:=⟨_,rfl⟩
 have HN:Hid (n = ents.length):=hn
 clear hsort hown hevb hb0 hr hn hM hcols
 go_enter Tryz.func190,Tryz.ntmps190
 go_wp2_with fail
 have hA:Below w.heap.size w (w.alloc (.cells #[.int .i64 p,.int .i64 l] 46)):=(Below.refl _ _).alloc (Nat.le_refl _) _
 refine (row_any tb v ents p l _ (by rw [cell_row ((hA.block tb hlt).trans HB0.out)];rfl) ((own_ents HO0.out).below hA) hl HO.out).mono ?_
 rw [HR.out]
 rintro e w1 ⟨rfl,hb1⟩
 have HA1:Hid (Below w.heap.size w w1):=hA.trans (hb1.mono (by simp))
 have ch0:w1.cell? ⟨w.heap.size,0,none⟩ = some (.int .i64 p):=(hb1.cell (p:=⟨w.heap.size,0,none⟩) (by simp)).trans (by simp)
 have ch1:w1.cell? ⟨w.heap.size,1,none⟩ = some (.int .i64 l):=(hb1.cell (p:=⟨w.heap.size,1,none⟩) (by simp)).trans (by simp)
 have hs1:w.heap.size < w1.heap.size:=by have:=hb1.size;simp at this;omega
 clear hb1 hA
 have ct:w1.cell? ⟨tb,0,none⟩ = some v:=by rw [cell_row ((HA1.out.block tb hlt).trans HB0.out)];rfl
 have cf:w1.frozen? ⟨tb,0,none⟩ = false:=frozen_row ((HA1.out.block tb hlt).trans HB0.out) 0
 have hlt1:tb < w1.heap.size:=by omega
 have hne1:tb ≠ w1.heap.size:=by omega
 have hne2:tb ≠ w1.heap.size + 1:=by omega
 obtain ⟨W2,hW2⟩:∃ W2,W2 = ((w1.alloc (.cells #[.int .i64 r] 3)).alloc (.cells #[.int .i64 p,.int .i64 l] 46)).drew:=⟨_,rfl⟩
 have hs2:W2.heap.size = w1.heap.size + 2:=by rw [hW2];simp
 have hB2:Below w1.heap.size w1 W2:=by rw [hW2];exact (((Below.refl _ _).alloc (Nat.le_refl _) _).alloc (by simp) _).drew
 have h2:W2.heap[w1.heap.size + 1]? = some (.cells (hNews p l).toArray 46 (0,0)):=by rw [hW2];exact heap_alloc_at (by simp) _
 have h2r:W2.cell? ⟨w1.heap.size,0,none⟩ = some (.int .i64 r):=by rw [hW2];simp
 have h2p:W2.cell? ⟨w.heap.size,0,none⟩ = some (.int .i64 p):=(hB2.cell (p:=⟨w.heap.size,0,none⟩) hs1).trans ch0
 have h2l:W2.cell? ⟨w.heap.size,1,none⟩ = some (.int .i64 l):=(hB2.cell (p:=⟨w.heap.size,1,none⟩) hs1).trans ch1
 have HI:Hid (Calls Tryz.prog 243 #[v,.int .i64 r,.slice (some ⟨w1.heap.size + 1,0,none⟩) 1 1] W2 fun e w' => ∃ a' c',e = .returned (.slice a' (n + 1) c') ∧ w'.cell? ⟨tb,0,none⟩ = some v ∧ w'.frozen? ⟨tb,0,none⟩ = false ∧ w'.cell? ⟨w1.heap.size,0,none⟩ = some (.int .i64 r) ∧ w'.cell? ⟨w.heap.size,0,none⟩ = some (.int .i64 p) ∧ w'.cell? ⟨w.heap.size,1,none⟩ = some (.int .i64 l) ∧
  Hid (w'.ownsRow 0 46 2 (.slice a' (n + 1) c') (n + 1) (setIn (eCells ents) (r * 2) (hNews p l)) ∧ W2.grownBy w' v.ownBlock ∧ ((Value.slice a' (n + 1) c').ownBlock = v.ownBlock ∨ ∃ g,(Value.slice a' (n + 1) c').ownBlock = some g ∧ W2.heap.size ≤ g))):=by
  have ho:=own_turn HO0.out fun k _ hk => (hB2.block k (Nat.lt_trans hk hs1)).trans (HA1.out.block k hk)
  rw [← HN.out] at ho
  refine (insert_own 0 v n r (eCells ents) (w1.heap.size + 1) p l W2 ho (by rw [HN.out];exact hrl) (by rw [HN.out];omega) (Nat.zero_le _) (eCells_one ents) (fun e => by have:=(HO0.out.lt _ e).2;omega) h2).mono ?_
  rintro e w' ⟨v',rfl,g1,g2,g3⟩
  obtain ⟨a',c',rfl⟩:=own_form g1
  have hblk:w'.heap[tb]? = w1.heap[tb]?:=(g2.block tb (by omega) (fun e => (HV.out tb e.symm).2 rfl)).trans (hB2.block tb hlt1)
  refine ⟨a',c',rfl,(World.cell?_of_block (a:=⟨tb,0,none⟩) hblk).trans ct,(World.frozen?_of_block (a:=⟨tb,0,none⟩) hblk).trans cf,g2.cell h2r (fun e => by have:=(HO0.out.lt _ e.symm).2;simp at this;omega),g2.cell h2p (fun e => by have:=(HO0.out.lt _ e.symm).2;simp at this),g2.cell h2l (fun e => by have:=(HO0.out.lt _ e.symm).2;simp at this),g1,g2,g3⟩
 rw [hW2] at HI
 clear h2 h2r h2p h2l
 go_wp2_with fail
 have HEnd:Hid (∀ (w2:World) (a':Option Addr) (c':Nat),w2.cell? ⟨w1.heap.size,0,none⟩ = some (.int .i64 r) → Hid (w2.ownsRow 0 46 2 (.slice a' (n + 1) c') (n + 1) (setIn (eCells ents) (r * 2) (hNews p l)) ∧ (((w1.alloc (.cells #[.int .i64 r] 3)).alloc (.cells #[.int .i64 p,.int .i64 l] 46)).drew).grownBy w2 v.ownBlock ∧ ((Value.slice a' (n + 1) c').ownBlock = v.ownBlock ∨ ∃ g,(Value.slice a' (n + 1) c').ownBlock = some g ∧ (((w1.alloc (.cells #[.int .i64 r] 3)).alloc (.cells #[.int .i64 p,.int .i64 l] 46)).drew).heap.size ≤ g)) →
  Calls Tryz.prog 124 #[.pointer (some ⟨tb,0,none⟩),.func (.func 244) #[] #[.pointer (some ⟨w1.heap.size,0,none⟩)]] (w2.setCell ⟨tb,0,none⟩ (.slice a' (n + 1) c')) fun e w' => e = .returned (.tuple #[]) ∧ Turns w w' (fun b => base ≤ own b ∧ own b < base + 32) ∧ ∃ own',(∀ b,b < w.heap.size → own' b = own b) ∧ TabC w' own' base tb s cks (setIn ents (ahead ents p) [(p,l)]) (fun k f => setIn (xs k f) (ahead ents p * kSz ((cks.getD k []).getD f 0)) (kZero ((cks.getD k []).getD f 0)))):=by
  intro w2 a' c' cr HF
  obtain ⟨g1,g2,g3⟩:=HF.out
  rw [← hW2] at g2 g3
  have hz2:=g2.size
  have hblk:w2.heap[tb]? = w.heap[tb]?:=((g2.block tb (by omega) (fun e => (HV.out tb e.symm).2 rfl)).trans (hB2.block tb hlt1)).trans (HA1.out.block tb hlt)
  have hset:(w2.setCell ⟨tb,0,none⟩ (.slice a' (n + 1) c')).heap[tb]? = some (.cells #[.slice a' (n + 1) c',sl 0,sl 1,sl 2,sl 3,sl 4,sl 5] 204 (0,0)):=setCell_block _ (hblk.trans HB0.out)
  obtain ⟨W4,hW4⟩:∃ W4,W4 = w2.setCell ⟨tb,0,none⟩ (.slice a' (n + 1) c'):=⟨_,rfl⟩
  rw [← hW4] at hset ⊢
  have hs4:W4.heap.size = w2.heap.size:=by rw [hW4];simp [World.setCell]
  have hnt:∀ k,(Value.slice a' (n + 1) c').ownBlock = some k → k ≠ tb ∧ k < w2.heap.size ∧ ((k < w.heap.size ∧ own k = base + 1) ∨ w1.heap.size + 2 ≤ k):=fun k hk => by
   have hlk:=(g1.lt k hk).2
   rcases g3 with h | ⟨g,h,hg⟩
   · rw [h] at hk;exact ⟨(HV.out k hk).2,hlk,Or.inl ⟨(HO0.out.lt k hk).2,(HV.out k hk).1⟩⟩
   · rw [h] at hk;simp at hk;subst hk;exact ⟨by omega,hlk,Or.inr (by omega)⟩
  have hk4:∀ b,b < w.heap.size → own b ≠ base + 1 → b ≠ tb → W4.heap[b]? = w.heap[b]?:=fun b h1 h2 h3 => by
   rw [hW4,Below.heap_setCell _ _ _ _ h3]
   exact ((g2.block b (by omega) (fun e => h2 (HV.out b e.symm).1)).trans (hB2.block b (by omega))).trans (HA1.out.block b h1)
  obtain ⟨own4,ho4⟩:∃ own4:Nat → Nat,own4 = fun b => if b < w.heap.size then own b else if (Value.slice a' (n + 1) c').ownBlock = some b then base + 1 else 0:=⟨_,rfl⟩
  have ho4a:∀ b,b < w.heap.size → own4 b = own b:=fun b hb => by rw [ho4];exact if_pos hb
  have hM4:Mix W4 own4 base s cks sl cbs (fun _ _ => n) xs:=by
   have:=HMx.out
   rw [← HN.out] at this
   exact this.turn fun b hb1 hb2 => ⟨hk4 b hb1 (by omega) (by rintro rfl;rw [HMe.out] at hb2;omega),ho4a b hb1⟩
  have hrb:own4 w1.heap.size = 0:=by
   rw [ho4]
   show (if w1.heap.size < w.heap.size then _ else _) = 0
   rw [if_neg (by omega),if_neg]
   intro e
   have:=(hnt _ e).2.2
   omega
  have E:=each_cols 244 w1.heap.size r tb s base cks sl cbs (fun _ _ => n) (fun _ _ => n + 1) xs (fun k f => setIn (xs k f) (ahead ents p * kSz ((cks.getD k []).getD f 0)) (kZero ((cks.getD k []).getD f 0))) own4 W4 runs123
   (fun k hk => by
    rw [cell_row hset]
    have:k = 0 ∨ k = 1 ∨ k = 2 ∨ k = 3 ∨ k = 4 ∨ k = 5:=by omega
    rcases this with rfl | rfl | rfl | rfl | rfl | rfl <;> rfl) hM4 HK1.out HK2.out (by omega) (fun k f => by rw [hrb];unfold lCol;omega)
   (by rw [hW4,set_other _ (Or.inl (by omega))];exact cr)
   (fun F k f kd cb W hk hq hf hkd hget hr hC => by
    have e:(cks.getD k []).getD f 0 = kd:=by simp only [List.getD] at hget ⊢;rw [hget];rfl
    simp only [e,HR.out]
    exact enter1_any kd hkd.1 hkd.2 _ _ cb w1.heap.size n r (xs k f) W hr hC (by rw [HN.out];exact hrl) (by rw [HN.out];exact hl) (HX1.out k f))
  refine E.mono ?_
  rintro e w' ⟨rfl,hT5,own5,ho5,hm5⟩
  have hz5:=hT5.size
  have htb5:own4 tb = base:=(ho4a tb hlt).trans HMe.out
  refine ⟨rfl,⟨?_,?_,?_,by omega,fun b hb hn => ?_⟩,own5,fun b hb => (ho5 b (by omega)).trans (ho4a b hb),(ho5 tb (by omega)).trans htb5,.slice a' (n + 1) c',sl,?_,?_,fun b hb => ?_,fun k hk => ?_⟩
  · rw [hT5.os,hW4];exact (g2.os.trans hB2.os).trans HA1.out.os
  · rw [hT5.tape,hW4];exact (g2.tape.trans hB2.tape).trans HA1.out.tape
  · rw [hT5.output,hW4];exact (g2.output.trans hB2.output).trans HA1.out.output
  · rw [hT5.block b (by omega) (fun ⟨k,f,h6,h4,e⟩ => by rw [ho4a b hb] at e;unfold lCol at e;omega)]
    exact hk4 b hb (by omega) (by rintro rfl;rw [HMe.out] at hn;omega)
  · rw [hT5.block tb (by omega) (fun ⟨k,f,_,_,e⟩ => by rw [htb5] at e;unfold lCol at e;omega)]
    exact hset
  · have hle:(setIn ents (ahead ents p) [(p,l)]).length = n + 1:=by rw [HR.out,HN.out];simp [setIn];omega
    rw [hle,HR.out,← eCells_setIn _ _ hrl]
    have g4:W4.ownsRow 0 46 2 (.slice a' (n + 1) c') (n + 1) (setIn (eCells ents) (r * 2) (hNews p l)):=own_turn g1 fun k hk _ => by rw [hW4];exact Below.heap_setCell _ _ _ _ (hnt k hk).1
    refine own_turn g4 fun k hk hkl => hT5.block k hkl (fun ⟨k',f',_,_,e⟩ => ?_)
    have h3:own4 k = base + 1:=by
     rw [ho4]
     show (if k < w.heap.size then _ else _) = _
     rcases (hnt k hk).2.2 with ⟨h,h'⟩ | h
     · rw [if_pos h];exact h'
     · rw [if_neg (by omega),if_pos hk]
    rw [h3] at e;unfold lCol at e;omega
  · have h3:own4 b = base + 1:=by
     rw [ho4]
     show (if b < w.heap.size then _ else _) = _
     rcases (hnt b hb).2.2 with ⟨h,h'⟩ | h
     · rw [if_pos h];exact h'
     · rw [if_neg (by omega),if_pos hb]
    exact (ho5 b (by have:=(hnt b hb).2.1;omega)).trans h3
  · have hle:(setIn ents (ahead ents p) [(p,l)]).length = n + 1:=by rw [HR.out,HN.out];simp [setIn];omega
    have:=hm5 k hk
    rw [hle]
    split
    · rename_i hq
      rw [if_pos hq] at this
      exact ⟨cbs k,this⟩
    · rename_i hq
      rw [if_neg hq] at this
      exact this
 go_region_with (go_at_call 243;refine HI.out.mono ?_;rintro e w2 ⟨a',c',rfl,ct2,cf2,cr2,cp2,cl2,HF⟩)
 all_goals (have HE:=HEnd.out w2 a' c' cr2 HF)
 all_goals (have HE2:Hid (Calls Tryz.prog 124 #[.pointer (some ⟨tb,0,none⟩),.func (.func 244) #[] #[.pointer (some ⟨w1.heap.size,0,none⟩)]] (w2.setCell ⟨tb,0,none⟩ (.slice a' (n + 1) c')) fun e w' => e = .returned (.tuple #[]) ∧ Turns w w' (fun b => base ≤ own b ∧ own b < base + 32) ∧ ∃ own',(∀ b,b < w.heap.size → own' b = own b) ∧ TabC w' own' base tb s cks (setIn ents (ahead ents p) [(p,l)]) (fun k f => setIn (xs k f) (ahead ents p * kSz ((cks.getD k []).getD f 0)) (kZero ((cks.getD k []).getD f 0)))):=HE)
 all_goals clear HE
 all_goals (have hmf:∀ (fn:Fn) (first cap:Array Value) (w:World),(Instr.makeFunc fn first cap).run Tryz.prog w = .ok (.func fn first cap) w:=fun _ _ _ _ => rfl)
 all_goals go_wp2_with (go_at_call 124;refine HE2.out.mono ?_;rintro e w3 ⟨rfl,hP⟩)
 all_goals go_end0
 all_goals exact ⟨rfl,hP⟩
end Go.Proofs.YthkbeaffkcfgiabGreatDoor
