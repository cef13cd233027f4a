import Derived.Test.YthkbeaffkcfgiabGreatDoorR44
set_option linter.unusedSimpArgs false
set_option linter.unusedVariables false
namespace Go.Proofs.YthkbeaffkcfgiabGreatDoor
open Go.RowKit
theorem s_getV {w0 w:World} {own0:Nat → Nat} {b g lc N:Nat} {X:List (Nat × Obj)} {S:St} (h:CmS w0 own0 b g lc N X S w) (hz:Sized S) (nm fn:List UInt8) (kd:Nat) (kd' p q:Int) (h0:(findFieldP rL S 2 2 nm fn).2.2 = 0) (hk:getK rL S 2 2 nm fn = kd) (hd:(kd:Int) = kd') (hp:gP kd (getX rL S 2 2 nm fn) = p) (hq:gQ kd (getX rL S 2 2 nm fn) = q) :
 Calls Tryz.prog 41 #[.pointer (some ⟨b,0,none⟩),.agg #[.int .i64 2,.int .i64 2],.string (mk nm),.string (mk fn)] w fun e w' => ∃ n s la ln lc,e = .returned (.tuple #[.agg #[.int .i64 kd',.int .i64 n,.string s,.int .i64 p,.int .i64 q,.slice la ln lc],.int .i64 0]) ∧ Below w.heap.size w w':=by
 subst hd hp hq
 refine (s_get h hz nm fn h0 kd hk).mono ?_
 rintro e w' ⟨s,la,ln,lc,rfl,hb⟩
 exact ⟨_,s,la,ln,lc,rfl,hb⟩
theorem s_getN {w0 w:World} {own0:Nat → Nat} {b g lc N:Nat} {X:List (Nat × Obj)} {S:St} (h:CmS w0 own0 b g lc N X S w) (hz:Sized S) (nm fn:List UInt8) (kd:Nat) (kd' n:Int) (h0:(findFieldP rL S 2 2 nm fn).2.2 = 0) (hk:getK rL S 2 2 nm fn = kd) (hd:(kd:Int) = kd') (hn:gN kd (getX rL S 2 2 nm fn) = n) :
 Calls Tryz.prog 41 #[.pointer (some ⟨b,0,none⟩),.agg #[.int .i64 2,.int .i64 2],.string (mk nm),.string (mk fn)] w fun e w' => ∃ s p q la ln lc,e = .returned (.tuple #[.agg #[.int .i64 kd',.int .i64 n,.string s,.int .i64 p,.int .i64 q,.slice la ln lc],.int .i64 0]) ∧ Below w.heap.size w w':=by
 subst hd hn
 refine (s_get h hz nm fn h0 kd hk).mono ?_
 rintro e w' ⟨s,la,ln,lc,rfl,hb⟩
 exact ⟨s,_,_,la,ln,lc,rfl,hb⟩
theorem g_next {w0 w:World} {own0:Nat → Nat} {b g lc N:Nat} {X:List (Nat × Obj)} (h:CmS w0 own0 b g lc N X stQ w):Calls Tryz.prog 41 #[.pointer (some ⟨b,0,none⟩),.agg #[.int .i64 2,.int .i64 2],.string (mk [108,105,110,107]),.string (mk [110,101,120,116])] w fun e w' => ∃ n s la ln lc,e = .returned (.tuple #[.agg #[.int .i64 4,.int .i64 n,.string s,.int .i64 1,.int .i64 1,.slice la ln lc],.int .i64 0]) ∧ Below w.heap.size w w' :=
 s_getV h sized_stQ _ _ 4 4 1 1 r_next.1 r_next.2.1 rfl r_next.2.2.1 r_next.2.2.2
theorem g_to {w0 w:World} {own0:Nat → Nat} {b g lc N:Nat} {X:List (Nat × Obj)} (h:CmS w0 own0 b g lc N X stQ w):Calls Tryz.prog 41 #[.pointer (some ⟨b,0,none⟩),.agg #[.int .i64 2,.int .i64 2],.string (mk [108,105,110,107]),.string (mk [116,111])] w fun e w' => ∃ n s la ln lc,e = .returned (.tuple #[.agg #[.int .i64 4,.int .i64 n,.string s,.int .i64 2,.int .i64 2,.slice la ln lc],.int .i64 0]) ∧ Below w.heap.size w w' :=
 s_getV h sized_stQ _ _ 4 4 2 2 r_to.1 r_to.2.1 rfl r_to.2.2.1 r_to.2.2.2
theorem g_x {w0 w:World} {own0:Nat → Nat} {b g lc N:Nat} {X:List (Nat × Obj)} (h:CmS w0 own0 b g lc N X stQ w):Calls Tryz.prog 41 #[.pointer (some ⟨b,0,none⟩),.agg #[.int .i64 2,.int .i64 2],.string (mk [112,111,115]),.string (mk [120])] w fun e w' => ∃ s p q la ln lc,e = .returned (.tuple #[.agg #[.int .i64 1,.int .i64 6,.string s,.int .i64 p,.int .i64 q,.slice la ln lc],.int .i64 0]) ∧ Below w.heap.size w w' :=
 s_getN h sized_stQ _ _ 1 1 6 r_x.1 r_x.2.1 rfl r_x.2.2
theorem cells33 {w0 w:World} {own0:Nat → Nat} {b g lc N q1 q2 q3 hg:Nat} {cur:Array Value} {k1 n1 k2 n2 k3:Value} {s1 s2 s3 l1 l2 l3 x3 y3:Value} {X:List (Nat × Obj)} {S:St} (h:CmS w0 own0 b g lc N ((q3,.cells #[k3,.int .i64 6,s3,x3,y3,l3] 56 (0,0)) :: (q2,.cells #[k2,n2,s2,.int .i64 2,.int .i64 2,l2] 56 (0,0)) :: (q1,.cells #[k1,n1,s1,.int .i64 1,.int .i64 1,l1] 56 (0,0)) :: (hg,.cells cur 46 (0,0)) :: X) S w) (hd0:cur[0]? = some (.int .i64 2)) (hd1:cur[1]? = some (.int .i64 2)) :
 (w.cell? ⟨q1,3,none⟩ = some (.int .i64 1) ∧ w.cell? ⟨q1,4,none⟩ = some (.int .i64 1)) ∧ (w.cell? ⟨q2,3,none⟩ = some (.int .i64 2) ∧ w.cell? ⟨q2,4,none⟩ = some (.int .i64 2)) ∧ w.cell? ⟨q3,1,none⟩ = some (.int .i64 6) ∧ w.cell? ⟨hg,0,none⟩ = some (.int .i64 2) ∧ w.cell? ⟨hg,1,none⟩ = some (.int .i64 2):=by
 have a3:=(h.has List.mem_cons_self).2
 have a2:=(h.has (List.mem_cons_of_mem _ List.mem_cons_self)).2
 have a1:=(h.has (List.mem_cons_of_mem _ (List.mem_cons_of_mem _ List.mem_cons_self))).2
 have a0:=(h.has (List.mem_cons_of_mem _ (List.mem_cons_of_mem _ (List.mem_cons_of_mem _ List.mem_cons_self)))).2
 exact ⟨⟨cell_at a1 rfl,cell_at a1 rfl⟩,⟨cell_at a2 rfl,cell_at a2 rfl⟩,cell_at a3 rfl,cell_at a0 hd0,cell_at a0 hd1⟩
theorem CmS.kept {w w1 w':World} {b g lc N:Nat} {X:List (Nat × Obj)} {S:St} (h:CmS w1 (ownB b) b g lc N X S w') (hb:Below w.heap.size w w1) (hB:w.heap.size ≤ b):Below w.heap.size w w':=by
 obtain ⟨_,_,h1,_,_⟩:=h
 have hs:=hb.size
 refine hb.trans ⟨h1.1.os,h1.1.tape,h1.1.output,h1.1.size,fun k hk => h1.1.block k (by omega) fun hk' => ?_⟩
 unfold Tur ownB at hk'
 rw [if_neg (by omega)] at hk'
 omega
set_option maxHeartbeats 800000 in
set_option maxRecDepth 100000 in
theorem refuses_any (w:World) (hG:Glob w):Calls Tryz.prog 13 #[] w fun e w' => e = .returned (.bool true) ∧ Below w.heap.size w w':=by
 have HN:Hid (Calls Tryz.prog 34 #[.string (mk rSch)] w fun e w1 => ∃ b,e = .returned (.tuple #[.pointer (some ⟨b,0,none⟩),.int .i64 0]) ∧ ∃ g lc,Hid ((Below w.heap.size w w1 ∧ w.heap.size ≤ b) ∧ CmZ w1 (ownB b) b g lc 1 [] St.nought w1)):=r_new w hG
 have HS1:Hid (∀ b g lc w0 w,CmZ w0 (ownB b) b g lc 1 [] St.nought w → Calls Tryz.prog 26 #[.pointer (some ⟨b,0,none⟩)] w fun e w1 => e = .returned (.tuple #[.agg #[.int .i64 1,.int .i64 1],.int .i64 0]) ∧ Hid (CmZ w0 (ownB b) b g lc 2 [] (St.nought.spawn 0 0) w1)) :=
  fun b g lc w0 w h => r_spawn b g lc 1 [] _ w0 w _ h 0 (by omega) (by omega) (by omega) (fun j hj => absurd hj (by omega)) rfl rfl
 have HS2:Hid (∀ b g lc X w0 w,CmZ w0 (ownB b) b g lc 2 X (St.nought.spawn 0 0) w → Calls Tryz.prog 26 #[.pointer (some ⟨b,0,none⟩)] w fun e w1 => e = .returned (.tuple #[.agg #[.int .i64 2,.int .i64 1],.int .i64 0]) ∧ Hid (CmZ w0 (ownB b) b g lc 3 X ((St.nought.spawn 0 0).spawn 1 0) w1)) :=
  fun b g lc X w0 w h => r_spawn b g lc 2 X (St.nought.spawn 0 0) w0 w (ownB b) h 1 (by omega) (by omega) (by omega) (fun j hj => by
   have e:j = 0:=by omega
   subst e
   exact Or.inl rfl) rfl rfl
 have HGo:Hid (∀ b g lc X w0 w,CmZ w0 (ownB b) b g lc 3 X ((St.nought.spawn 0 0).spawn 1 0) w → Calls Tryz.prog 27 #[.pointer (some ⟨b,0,none⟩),.agg #[.int .i64 2,.int .i64 1]] w fun e w1 => e = .returned (.int .i64 0) ∧ Hid (CmZ w0 (ownB b) b g lc 3 X stB w1)) :=
  fun b g lc X w0 w h => r_gone b g lc 3 X _ w0 w _ h 1 (by omega) rfl (by decide) rfl
 go_enter Tryz.func13,Tryz.ntmps13
 go_wp2_with fail
 refine Calls.mono HN.out ?_
 rintro e w1 ⟨b,rfl,g,lc,H1⟩
 go_wp2_with fail
 refine Calls.mono (HS1.out b g lc w1 w1 H1.out.2) ?_
 rintro e w2 ⟨rfl,H2⟩
 go_wp2_with fail
 refine Calls.mono (HS2.out b g lc _ w1 _ (H2.out.alloc _ _)) ?_
 rintro e w3 ⟨rfl,H3⟩
 go_wp2_with fail
 refine Calls.mono (HGo.out b g lc _ w1 _ (H3.out.alloc _ _)) ?_
 rintro e w4 ⟨rfl,H4⟩
 go_wp2_with fail
 have hq:=((H4.out.alloc #[.int .i64 0,.int .i64 0] 46).alloc #[.int .i64 1,.int .i64 1,.string ⟨#[]⟩,.int .i64 0,.int .i64 0,.slice none 0 0] 56).toAt
 have hqs:(w4.alloc (.cells #[.int .i64 0,.int .i64 0] 46)).heap.size = w4.heap.size + 1:=by simp
 rw [hqs] at hq
 clear hqs
 refine region9 (by unfold IsReg;kernel_rfl) ?_ rfl (by omega) (by omega) hq ?_
 · exact { s1:=rfl,s3:=⟨_,46,(0,0),rfl,by simp⟩,s5:=⟨_,46,(0,0),rfl,by simp⟩,s7:=⟨_,46,(0,0),rfl,by simp⟩,s8:=⟨_,56,(0,0),rfl,by simp⟩ }
 clear hq
 intro D a w5 hsz hdf hlo hup h9 hcm
 obtain ⟨f,rfl⟩:=lay9 a hsz hdf (.pointer (some ⟨b,0,none⟩)) (.pointer (some ⟨w2.heap.size,0,none⟩)) (.pointer (some ⟨w3.heap.size,0,none⟩)) (.pointer (some ⟨w4.heap.size,0,none⟩)) (.pointer (some ⟨w4.heap.size + 1,0,none⟩)) (.slice (some ⟨D,0,none⟩) 30 30) ((hlo 1 (by omega) (by omega)).trans rfl) ((hlo 3 (by omega) (by omega)).trans rfl) ((hlo 5 (by omega) (by omega)).trans rfl) ((hlo 7 (by omega) (by omega)).trans rfl) ((hlo 8 (by omega) (by omega)).trans rfl) h9
 clear hsz hdf hlo hup h9
 clear HN HS1 HS2 HGo
 generalize w4.heap.size + 1 = qm at hcm ⊢
 generalize w4.heap.size = qn at hcm ⊢
 generalize w3.heap.size = qu at hcm ⊢
 generalize w2.heap.size = qh at hcm ⊢
 have H6:Hid (CmAt w1 (ownB b) b g lc 3 _ 30 _):=hcm.alloc (wantR.map (Value.int .i64)).toArray 33
 clear hcm
 clear H2 H3 H4
 go_wp2_with fail
 generalize w5.heap.size = D2 at H6 ⊢
 go_loopw [169] (fun t wr => ∃ k:Nat,k ≤ 30 ∧ t = .int .i64 k ∧ Hid (CmAt w1 (ownB b) b g lc 3 (keptR D2 D qm qn qu qh) 30 wr)) (fun t _ => 30 - (intOf t).toNat)
 case atStart => exact ⟨0,by omega,rfl,H6⟩
 case round =>
  obtain ⟨k,hk,rfl,HC⟩:=hrel
  by_cases hlt:k < 30
  · have ⟨x0,x1⟩:=want_cells HC.out hlt
    generalize wantR.getD k 0 = v at x0 x1
    go_wp2_with fail
    go_region
    clear x0 x1
    go_wp2_with fail
    go_roundw
    case rel => exact ⟨k + 1,by omega,by go_num,HC.out.below (Below.refl _ _).drew⟩
    case measure => simp [intOf];omega
  · obtain rfl:k = 30:=by omega
    have ⟨y0,y1⟩:=box_h HC.out
    go_wp2_with fail
    clear y0 y1
    refine Calls.mono (over39 _ _ _ _ _ _ _ _ _ _ _ _) ?_
    rintro e w6 ⟨rfl,hb6⟩
    have H7:Hid (CmAt w1 (ownB b) b g lc 3 (keptR D2 D qm qn qu qh) 30 w6):=HC.out.below hb6
    clear hb6
    go_wp2_with fail
    have hq:=H7.out.alloc (ovc ⟨0,[108,105,110,107],[110,101,120,116],4,0,[],1,1,[]⟩).toArray 76
    refine region20 (by unfold IsReg;kernel_rfl) ?_ rfl hq ?_
    · exact { s13:=rfl,s5:=⟨_,46,(0,0),rfl,by simp [keptR]⟩,s8:=⟨_,56,(0,0),rfl,by simp [keptR]⟩,s14:=⟨_,rfl,by simp⟩ }
    clear hq
    intro P a w7 hsz hdf hlo hup h15 hcm
    obtain ⟨f2,rfl⟩:=lay20 a hsz hdf (.pointer (some ⟨b,0,none⟩)) (.pointer (some ⟨qh,0,none⟩)) (.string (mk rT)) (.slice (some ⟨P 40,0,none⟩) 8 8) ((hlo 1 (by omega) (by omega)).trans rfl) ((hlo 3 (by omega) (by omega)).trans rfl) ((hlo 12 (by omega) (by omega)).trans rfl) h15
    clear hsz hdf hlo hup h15
    have H8:Hid (CmS w1 (ownB b) b g lc 33 _ (stK 30) w7):=hcm.toS
    clear hcm
    have hq:=H8.out.alloc (atR.map (Value.int .i64)).toArray 3
    have hgl:Glob w1:=hG.below hG.size H1.out.1.1 H1.out.1.1.size
    have h11:11 ≤ b:=Nat.le_trans hG.size H1.out.1.2
    go_wp2_with fail
    generalize w7.heap.size = qt at hq ⊢
    obtain ⟨X2,hX2⟩:∃ X2,X2 = ((qt,objT) :: (P 40,objS P) :: (sl8.map (fun i => (P i.1,objC i.2)) ++ ((w6.heap.size,Obj.cells (ovc ⟨0,[108,105,110,107],[110,101,120,116],4,0,[],1,1,[]⟩).toArray 76 (0,0)) :: keptR D2 D qm qn qu qh))):=⟨_,rfl⟩
    have m1:(qt,objT) ∈ X2:=by rw [hX2];simp
    have m2:(P 40,objS P) ∈ X2:=by rw [hX2];simp
    have m3:(qh,Obj.cells #[.int .i64 1,.int .i64 1] 46 (0,0)) ∈ X2:=by rw [hX2];unfold keptR;simp
    have m4:∀ k,k < 8 → (P (sl8.getD k (0,0)).1,objC k) ∈ X2:=fun k hk => by
     rw [hX2]
     refine List.mem_cons_of_mem _ (List.mem_cons_of_mem _ (List.mem_append.2 (Or.inl ?_)))
     exact List.mem_map.2 ⟨_,sl8_mem k hk,rfl⟩
    have H9:Hid (CmS w1 (ownB b) b g lc 33 X2 (stK 30) (w7.alloc (.cells (atR.map (Value.int .i64)).toArray 3))):=by rw [hX2];exact hq
    clear hq hX2 H8 H7 HC H6
    have HSv0:Hid (∀ W,CmS w1 (ownB b) b g lc 33 X2 (stK 30) W → Calls Tryz.prog 17 #[.pointer (some ⟨b,0,none⟩)] W fun e w' => ∃ s,e = .returned (.string s) ∧ Below W.heap.size W w'):=fun W h => (s_save h hgl h11 sane0 r_w0).mono fun _ _ ⟨h1,h2⟩ => ⟨_,h1,h2⟩
    obtain ⟨T,hT⟩:∃ T,T = mk (textTx rL (backL rL stQ)):=⟨_,rfl⟩
    have HSv1:Hid (∀ W,CmS w1 (ownB b) b g lc 34 X2 stQ W → Calls Tryz.prog 17 #[.pointer (some ⟨b,0,none⟩)] W fun e w' => e = .returned (.string T) ∧ Below W.heap.size W w'):=fun W h => by rw [hT];exact s_save h hgl h11 sane1 r_w1
    clear hT
    have HP0:Hid (∀ W,CmS w1 (ownB b) b g lc 33 X2 (stK 30) W → Calls Tryz.prog 40 #[.pointer (some ⟨b,0,none⟩),.string (mk rT),.slice (some ⟨P 7,0,none⟩) 3 3] W fun e w' => ∃ (hg hc:Nat) (cur:Array Value),e = .returned (.tuple #[.slice (some ⟨hg,0,none⟩) 1 hc,.int .i64 0,.int .i64 0]) ∧ 1 ≤ hc ∧ cur[0]? = some (.int .i64 2) ∧ cur[1]? = some (.int .i64 2) ∧ Hid (CmS w1 (ownB b) b g lc 34 ((hg,.cells cur 46 (0,0)) :: X2) stQ w')):=fun W h => s_put0 h hgl h11 (P 7) (m4 0 (by omega)) (by omega) (by omega)
    have HPk:Hid (∀ W k,k < 8 → k ≠ 0 → CmS w1 (ownB b) b g lc 34 X2 stQ W → Calls Tryz.prog 40 #[.pointer (some ⟨b,0,none⟩),.string (mk rT),.slice (some ⟨P (sl8.getD k (0,0)).1,0,none⟩) (ovsAt k).length (ovsAt k).length] W fun e w' => e = .returned (.tuple #[.slice none 0 0,.int .i64 11,.int .i64 (atR.getD k 0)]) ∧ Below W.heap.size W w'):=fun W k hk h0 h => s_putk h hgl h11 k _ _ hk h0 (m4 k hk)
    have HPn:Hid (∀ W v,CmS w1 (ownB b) b g lc 34 X2 stQ W → Calls Tryz.prog 40 #[.pointer (some ⟨b,0,none⟩),.string (mk [120]),v] W fun e w' => e = .returned (.tuple #[.slice none 0 0,.int .i64 10,.int .i64 0]) ∧ Below W.heap.size W w'):=fun W v h => s_putN h hgl h11 v
    have HC0:Hid (∀ W N S,CmS w1 (ownB b) b g lc N X2 S W → ∀ k,k < 8 → W.cell? ⟨P 40,k,none⟩ = some (.slice (some ⟨P (sl8.getD k (0,0)).1,0,none⟩) (ovsAt k).length (ovsAt k).length) ∧ W.cell? ⟨qt,k,none⟩ = some (.int .i64 (atR.getD k 0))):=fun W N S h k hk => ⟨cases_at h m2 k hk,at_cell h m1 k hk⟩
    have HCh:Hid (∀ W N S Y,CmS w1 (ownB b) b g lc N Y S W → (∀ x ∈ X2,x ∈ Y) → W.cell? ⟨qh,0,none⟩ = some (.int .i64 1) ∧ W.cell? ⟨qh,1,none⟩ = some (.int .i64 1)):=fun W N S Y h hs => ⟨cell_at (h.has (hs _ m3)).2 rfl,cell_at (h.has (hs _ m3)).2 rfl⟩
    generalize P 40 = p40 at HC0 ⊢
    clear m1 m2 m4 m3 hgl h11
    generalize mk rT = mt at HP0 HPk ⊢
    go_loopw [230] (fun t wr => ∃ k:Nat,k ≤ 8 ∧ t = .int .i64 k ∧ Hid ((k = 0 ∧ CmS w1 (ownB b) b g lc 33 X2 (stK 30) wr) ∨ (k ≠ 0 ∧ CmS w1 (ownB b) b g lc 34 X2 stQ wr))) (fun t _ => 8 - (intOf t).toNat)
    case atStart => exact ⟨0,by omega,rfl,Or.inl ⟨rfl,H9.out⟩⟩
    case round =>
     obtain ⟨k,hk,rfl,HK⟩:=hrel
     by_cases hlt:k < 8
     · rcases HK.out with ⟨hk0,hS⟩ | ⟨hk0,hS⟩
       · subst hk0
         have HS:Hid (CmS w1 (ownB b) b g lc 33 X2 (stK 30) _):=hS
         have c0:World.cell? _ ⟨p40,0,none⟩ = some (.slice (some ⟨P 7,0,none⟩) 3 3):=(HC0.out _ _ _ hS 0 (by omega)).1
         clear hS HK
         go_wp2_with fail
         clear c0
         refine Calls.mono (HSv0.out _ HS.out) ?_
         rintro e w8 ⟨s8,rfl,hb8⟩
         have HS8:Hid (CmS w1 (ownB b) b g lc 33 X2 (stK 30) w8):=HS.out.below hb8
         clear hb8 HS
         go_wp2_with fail
         refine Calls.mono (HP0.out _ HS8.out) ?_
         rintro e w9 ⟨hg,hc,cur,rfl,hc1,hd0,hd1,HS9⟩
         clear HS8
         have c0:w9.cell? ⟨hg,0,none⟩ = some (.int .i64 2):=cell_at (HS9.out.has List.mem_cons_self).2 hd0
         have c1:w9.cell? ⟨hg,1,none⟩ = some (.int .i64 2):=cell_at (HS9.out.has List.mem_cons_self).2 hd1
         go_wp2_with fail
         clear c0 c1
         refine Calls.mono (g_next HS9.out) ?_
         rintro e w10 ⟨n1,s1,la1,ln1,lc1,rfl,hb10⟩
         have HS10:Hid (CmS w1 (ownB b) b g lc 34 _ stQ _):=(HS9.out.below hb10).alloc #[.int .i64 4,.int .i64 n1,.string s1,.int .i64 1,.int .i64 1,.slice la1 ln1 lc1] 56
         clear hb10 HS9
         have c0:(w10.alloc (.cells #[.int .i64 4,.int .i64 n1,.string s1,.int .i64 1,.int .i64 1,.slice la1 ln1 lc1] 56)).cell? ⟨hg,0,none⟩ = some (.int .i64 2):=cell_at (HS10.out.has (List.mem_cons_of_mem _ List.mem_cons_self)).2 hd0
         have c1:(w10.alloc (.cells #[.int .i64 4,.int .i64 n1,.string s1,.int .i64 1,.int .i64 1,.slice la1 ln1 lc1] 56)).cell? ⟨hg,1,none⟩ = some (.int .i64 2):=cell_at (HS10.out.has (List.mem_cons_of_mem _ List.mem_cons_self)).2 hd1
         go_wp2_with fail
         clear c0 c1
         refine Calls.mono (g_to HS10.out) ?_
         rintro e w11 ⟨n2,s2,la2,ln2,lc2,rfl,hb11⟩
         have HS11:Hid (CmS w1 (ownB b) b g lc 34 _ stQ _):=(HS10.out.below hb11).alloc #[.int .i64 4,.int .i64 n2,.string s2,.int .i64 2,.int .i64 2,.slice la2 ln2 lc2] 56
         clear hb11 HS10
         generalize w10.heap.size = q1 at HS11 ⊢
         have c0:(w11.alloc (.cells #[.int .i64 4,.int .i64 n2,.string s2,.int .i64 2,.int .i64 2,.slice la2 ln2 lc2] 56)).cell? ⟨hg,0,none⟩ = some (.int .i64 2):=cell_at (HS11.out.has (List.mem_cons_of_mem _ (List.mem_cons_of_mem _ List.mem_cons_self))).2 hd0
         have c1:(w11.alloc (.cells #[.int .i64 4,.int .i64 n2,.string s2,.int .i64 2,.int .i64 2,.slice la2 ln2 lc2] 56)).cell? ⟨hg,1,none⟩ = some (.int .i64 2):=cell_at (HS11.out.has (List.mem_cons_of_mem _ (List.mem_cons_of_mem _ List.mem_cons_self))).2 hd1
         go_wp2_with fail
         clear c0 c1
         refine Calls.mono (g_x HS11.out) ?_
         rintro e w12 ⟨s3,x3,y3,la3,ln3,lc3,rfl,hb12⟩
         have HS12:Hid (CmS w1 (ownB b) b g lc 34 _ stQ _):=(HS11.out.below hb12).alloc #[.int .i64 1,.int .i64 6,.string s3,.int .i64 x3,.int .i64 y3,.slice la3 ln3 lc3] 56
         clear hb12 HS11
         generalize w11.heap.size = q2 at HS12 ⊢
         have ⟨⟨d1,d2⟩,⟨d3,d4⟩,d5,d6,d7⟩:=cells33 HS12.out hd0 hd1
         have ⟨d8,d9⟩:=HCh.out _ _ _ _ HS12.out (fun x hx => List.mem_cons_of_mem _ (List.mem_cons_of_mem _ (List.mem_cons_of_mem _ (List.mem_cons_of_mem _ hx))))
         go_wp2_with fail
         go_region
         clear d1 d2 d3 d4 d5 d6 d7 d8 d9
         go_wp2_with fail
         go_roundw
         case rel => exact ⟨1,by omega,by go_num,Or.inr ⟨by omega,(HS12.out.below (Below.refl _ _).drew).sub (fun x hx => List.mem_cons_of_mem _ (List.mem_cons_of_mem _ (List.mem_cons_of_mem _ (List.mem_cons_of_mem _ hx))))⟩⟩
         case measure => simp [intOf]
       · have HS:Hid (CmS w1 (ownB b) b g lc 34 X2 stQ _):=hS
         have c0:=(HC0.out _ _ _ hS k hlt).1
         have hp:Hid _:=fun W => HPk.out W k hlt hk0
         clear hS HK
         generalize P (sl8.getD k (0,0)).1 = pk at c0 hp
         generalize (ovsAt k).length = lk at c0 hp
         go_wp2_with fail
         clear c0
         refine Calls.mono (HSv1.out _ HS.out) ?_
         rintro e w8 ⟨rfl,hb8⟩
         have HS8:Hid (CmS w1 (ownB b) b g lc 34 X2 stQ w8):=HS.out.below hb8
         clear hb8 HS
         go_wp2_with fail
         refine Calls.mono (hp.out _ HS8.out) ?_
         rintro e w9 ⟨rfl,hb9⟩
         have HS9:Hid (CmS w1 (ownB b) b g lc 34 X2 stQ w9):=HS8.out.below hb9
         clear hb9 HS8
         have c1:=(HC0.out _ _ _ HS9.out k hlt).2
         generalize atR.getD k 0 = ak at c1 ⊢
         go_wp2_with fail
         clear c1
         refine Calls.mono (HSv1.out _ HS9.out) ?_
         rintro e w10 ⟨rfl,hb10⟩
         have HS10:Hid (CmS w1 (ownB b) b g lc 34 X2 stQ w10):=HS9.out.below hb10
         clear hb10 HS9
         go_wp2_with fail
         go_roundw
         case rel => exact ⟨k + 1,by omega,by go_num,Or.inr ⟨by omega,HS10.out⟩⟩
         case measure => simp [intOf];omega
     · obtain rfl:k = 8:=by omega
       have HS:Hid (CmS w1 (ownB b) b g lc 34 X2 stQ wr):=by
        rcases HK.out with ⟨h,_⟩ | ⟨_,h⟩
        · exact absurd h (by omega)
        · exact h
       have c0:World.cell? _ ⟨p40,1,none⟩ = some (.slice (some ⟨P 11,0,none⟩) 1 1):=(HC0.out _ _ _ HS.out 1 (by omega)).1
       clear HK
       go_wp2_with fail
       clear c0
       refine Calls.mono (HPn.out _ _ HS.out) ?_
       rintro e w8 ⟨rfl,hb8⟩
       go_wp2_with fail
       go_ret
       exact ⟨rfl,(HS.out.below hb8).kept H1.out.1.1 H1.out.1.2⟩
end Go.Proofs.YthkbeaffkcfgiabGreatDoor
