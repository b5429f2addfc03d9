/- The project's MarkAll. -/
import Derived.Test.YtdagkbgobnaijaaCc6a
namespace Go.Proofs.Ytdagkbgobnaijaa
open Go.RowKit Ph

set_option maxRecDepth 100000 in
set_option maxHeartbeats 3200000 in
theorem c_MarkAll (a b c v : Value) (h : H) (zs : List Int) (w : World) (hA : HeapAt w a b c h) (hz : IntsAt w v zs) : Calls Try.prog 59 #[hv a b c, v] w (EndII (markR h zs).1 ((markR h zs).2 : Int) (markOk h zs) w) := by
  have hb0 := below1 w (.cells (c3 a b c) 32)
  have A0 := Lib.hid (hA.below hb0)
  have Z0 := Lib.hid (hz.below hb0)
  have HB := Lib.hid hb0
  have R0 := Lib.hid (show RowH _ _ a b c from Row.new w 32 (c3 a b c))
  have HF := Lib.hid hA.f
  clear hA hb0
  have HC := Lib.hid (c_GoodHeap a b c h _ A0.out)
  have HE1 := Lib.hid (markR_no (h := h) (zs := zs))
  have HE2 := Lib.hid (markR_yes (h := h) (zs := zs))
  have hE : markOk h zs = (good h && choB zs) := rfl
  have HGI := Lib.hid (good_iff (h := h)).1
  have HAL : Hid (∀ w', IntsAt w' v zs → Calls Try.prog 107 #[v] w' fun e w'' => e = .returned (.bool (choB zs)) ∧ w' = w'') := fun w' hh => c_areChoices v zs w' hh
  obtain ⟨va, vc, rfl⟩ := hz.shape
  have HZ := Lib.hid hz
  clear hz
  generalize good h = x at *
  generalize hy : choB zs = y at *
  have HY := Lib.hid hy; clear hy
  generalize hok : markOk h zs = ok at *
  clear hok
  generalize (markR h zs).1 = g1 at *
  generalize ((markR h zs).2 : Int) = g2 at *
  generalize zs.length = m at *
  have c0 := R0.out.c0
  have c1 := R0.out.c1
  have c2 := R0.out.c2
  cases x
  · have HE : Hid (ok = false) := by unfold Hid; rw [hE]; rfl
    clear hE
    obtain ⟨HR1, HR2⟩ := HE1.out HE.out
    have HR1 := Lib.hid HR1; have HR2 := Lib.hid HR2
    go_enter Try.func59, Try.ntmps59
    go_wp2_with (go_at_call 106; refine HC.out.mono ?_; rintro e w1 ⟨rfl, hb1⟩; have B1 := Lib.hid (bst HB.out hb1 HB.out.size); have Z1 := Lib.hid (Z0.out.below hb1); have A1 := Lib.hid (A0.out.below hb1); have R1 := Lib.hid (R0.out.below hb1); have d0 := R1.out.c0; have d1 := R1.out.c1; have d2 := R1.out.c2; clear hb1)
    go_ret3
    exact endII_no B1.out HR1.out HR2.out HE.out
  cases y
  · have HE : Hid (ok = false) := by unfold Hid; rw [hE]; rfl
    clear hE
    obtain ⟨HR1, HR2⟩ := HE1.out HE.out
    have HR1 := Lib.hid HR1; have HR2 := Lib.hid HR2
    go_enter Try.func59, Try.ntmps59
    go_wp2_with (first
      | (go_at_call 106; refine HC.out.mono ?_; rintro e w1 ⟨rfl, hb1⟩; have B1 := Lib.hid (bst HB.out hb1 HB.out.size); have Z1 := Lib.hid (Z0.out.below hb1); have A1 := Lib.hid (A0.out.below hb1); have R1 := Lib.hid (R0.out.below hb1); have d0 := R1.out.c0; have d1 := R1.out.c1; have d2 := R1.out.c2; clear hb1)
      | (go_at_call 107; refine (HAL.out _ Z1.out).mono ?_; rintro e w2 ⟨rfl, rfl⟩))
    go_ret3
    exact endII_no B1.out HR1.out HR2.out HE.out
  have HE : Hid (ok = true) := by unfold Hid; rw [hE]; rfl
  clear hE
  obtain ⟨HR1, HR2⟩ := HE2.out HE.out
  have HR1 := Lib.hid HR1; have HR2 := Lib.hid HR2
  have HG := Lib.hid (HGI.out rfl)
  clear HGI HE1 HE2
  obtain ⟨aa, ac, rfl⟩ := A0.out.f.shape
  obtain ⟨ba, bc, rfl⟩ := A0.out.l.shape
  obtain ⟨ca, cc, rfl⟩ := A0.out.r.shape
  generalize h.f.length = na at *
  generalize h.l.length = nb at *
  generalize h.r.length = nc at *
  go_enter Try.func59, Try.ntmps59
  go_wp2_with (first
    | (go_at_call 106; refine HC.out.mono ?_; rintro e w1 ⟨rfl, hb1⟩; have B1 := Lib.hid (bst HB.out hb1 HB.out.size); have Z1 := Lib.hid (Z0.out.below hb1); have A1 := Lib.hid (A0.out.below hb1); have R1 := Lib.hid (R0.out.below hb1); have d0 := R1.out.c0; have d1 := R1.out.c1; have d2 := R1.out.c2; clear hb1)
    | (go_at_call 107; refine (HAL.out _ Z1.out).mono ?_; rintro e w2 ⟨rfl, rfl⟩))
  have BD := Lib.hid (below_drew B1.out)
  have AD := Lib.hid (A1.out.below (below_drew (Below.refl w1.heap.size w1)))
  have RD : Hid (RowH w1.drew w.heap.size (.slice aa na ac) (.slice ba nb bc) (.slice ca nc cc)) := R1.out
  clear d0 d1 d2 c0 c1 c2
  have d0 := RD.out.c0
  have d1 := RD.out.c1
  have d2 := RD.out.c2
  refine wp_region_held_drew (S := (fun w' => w'.cell? ⟨w.heap.size, 0, none⟩ = some (.slice aa na ac) ∧ w'.cell? ⟨w.heap.size, 1, none⟩ = some (.slice ba nb bc) ∧ w'.cell? ⟨w.heap.size, 2, none⟩ = some (.slice ca nc cc))) (by kernel_rfl) (⟨d0, d1, d2⟩) (fun hHeld => ?_)
  refine wpAnyH_take (i := 0) (v := ?va0x1) rfl (by kernel_rfl) (by kernel_rfl) (by kernel_rfl) (fun _ _ _ h => h) (Or.inl ⟨by rfl, ?hy0x1⟩) (by assumption) ?rest0x1
  case hy0x1 => (intro w hSw; (try dsimp only at hSw); go_simp; try with_reducible rfl)
  (try simp only [Act.put, List.getElem_toArray, List.getElem_cons_zero, List.setIfInBounds_toArray, List.set_cons_zero, List.set_cons_succ])
  refine wpAnyH_take (i := 1) (v := ?va1x2) rfl (by kernel_rfl) (by kernel_rfl) (by kernel_rfl) (fun _ _ _ h => h) (Or.inl ⟨by rfl, ?hy1x2⟩) (by assumption) ?rest1x2
  case hy1x2 => (intro w hSw; (try dsimp only at hSw); go_simp; try with_reducible rfl)
  (try simp only [Act.put, List.getElem_toArray, List.getElem_cons_zero, List.getElem_cons_succ, List.setIfInBounds_toArray, List.set_cons_zero, List.set_cons_succ])
  refine wpAnyH_take (i := 3) (v := ?va3x3) rfl (by kernel_rfl) (by kernel_rfl) (by kernel_rfl) (fun _ _ _ h => h) (Or.inl ⟨by rfl, ?hy3x3⟩) (by assumption) ?rest3x3
  case hy3x3 => (intro w hSw; (try dsimp only at hSw); go_simp; try with_reducible rfl)
  (try simp only [Act.put, List.getElem_toArray, List.getElem_cons_zero, List.getElem_cons_succ, List.setIfInBounds_toArray, List.set_cons_zero, List.set_cons_succ])
  generalize w1.drew = wd at *
  clear d0 d1 d2
  refine wpAnyH_ready (rs := [2, 6]) (by kernel_rfl) (by simp) ?_
  refine AllReadyH.cons rfl (fun K hK => ?_) (AllReadyH.cons rfl (fun K hK => ?_) AllReadyH.nil)
  · skip
    go_simp
    refine (c_coloursAtStart (.slice aa na ac) (.slice ba nb bc) (.slice ca nc cc) h _ AD.out HG.out).mono ?_
    rintro e w3 ⟨v3, rfl, ho3, hb3⟩
    obtain ⟨pn, qn, rfl⟩ := ho3.ints.shape
    have RC := Lib.hid (RD.out.below hb3)
    have BC := Lib.hid (bst BD.out hb3 BD.out.size)
    have OC := Lib.hid (ho3.mono BD.out.size)
    have HV : Hid (∀ g, (Value.slice pn (startC h).length qn).ownBlock = some g → g < w3.heap.size) := fun g e => (owns_lt ho3 e).2
    generalize hnl : (startC h).length = n at *
    clear hnl
    clear ho3 hb3
    refine hK.out _ _ ⟨RC.out.c0, RC.out.c1, RC.out.c2⟩ (fun hHeld => ?_)
    clear hK K
    (try simp only [Act.put, List.getElem_toArray, List.getElem_cons_zero, List.getElem_cons_succ, List.setIfInBounds_toArray, List.set_cons_zero, List.set_cons_succ])
    refine wpAnyH_ready (rs := [4, 6]) (by kernel_rfl) (by simp) ?_
    refine AllReadyH.cons rfl (fun K hK => ?_) (AllReadyH.cons rfl (fun K hK => ?_) AllReadyH.nil)
    · skip
      go_simp
      refine (c_byChoices va m vc w3).mono ?_
      rintro e w4 ⟨rfl, hw4⟩
      have hb4 : Below w3.heap.size w3 w4 := by rw [hw4]; exact ((below1 w3 (.cells #[(.slice va m vc)] 24)).alloc (below1 w3 (.cells #[(.slice va m vc)] 24)).size (.cells #[.int .i64 0] 3))
      have RB4 : Hid (Row w4 w3.heap.size 24 #[(.slice va m vc)]) := by unfold Hid; rw [hw4]; exact (Row.new w3 24 #[(.slice va m vc)]).alloc (.cells #[.int .i64 0] 3)
      have RU4 : Hid (Row w4 (w3.heap.size + 1) 3 #[.int .i64 0]) := by unfold Hid; rw [hw4]; exact Row.new1 w3 (.cells #[(.slice va m vc)] 24) 3 #[.int .i64 0]
      have R4 := Lib.hid (RC.out.below hb4)
      have B4 := Lib.hid (bst BC.out hb4 BC.out.size)
      have O4 := Lib.hid (OC.out.below hb4)
      have LB : Hid (w.heap.size ≤ w3.heap.size) := BC.out.size
      have HVB : Hid (∀ g, (Value.slice pn n qn).ownBlock = some g → g < w3.heap.size) := HV.out
      clear hb4 hw4
      refine hK.out _ _ ⟨R4.out.c0, R4.out.c1, R4.out.c2⟩ (fun hHeld => ?_)
      clear hK K
      (try simp only [Act.put, List.getElem_toArray, List.getElem_cons_zero, List.getElem_cons_succ, List.setIfInBounds_toArray, List.set_cons_zero, List.set_cons_succ])
      generalize w3.heap.size = gb at *
      refine wpAnyH_take (i := 5) (v := ?va5x4) rfl (by kernel_rfl) (by kernel_rfl) (by kernel_rfl) (fun _ _ _ h => h) (Or.inl ⟨by rfl, ?hy5x4⟩) (by assumption) ?rest5x4
      case hy5x4 => (intro w hSw; (try dsimp only at hSw); go_simp; try with_reducible rfl)
      (try simp only [Act.put, List.getElem_toArray, List.getElem_cons_zero, List.getElem_cons_succ, List.setIfInBounds_toArray, List.set_cons_zero, List.set_cons_succ])
      refine wpAnyH_ready (rs := [6]) (by kernel_rfl) (by simp) ?_
      refine AllReadyH.cons rfl (fun K hK => ?_) AllReadyH.nil
      have R4z := Lib.hid (show RowH _ _ _ _ _ from Row.alloc R4.out (.cells (c5 (.slice none 0 0) (.slice none 0 0) (.slice none 0 0) (.slice none 0 0) .nilFunc) 97))
      go_simp
      refine hK.out _ _ ⟨R4z.out.c0, R4z.out.c1, R4z.out.c2⟩ (fun hHeld => ?_)
      clear hK K
      (try simp only [Act.put, List.getElem_toArray, List.getElem_cons_zero, List.getElem_cons_succ, List.setIfInBounds_toArray, List.set_cons_zero, List.set_cons_succ])
      have RN := Lib.hid (show RowH _ _ _ _ _ from Row.alloc R4.out (.cells (c5 (.slice aa na ac) (.slice ba nb bc) (.slice ca nc cc) (.slice pn n qn) (.func (.func 119) #[] #[.pointer (some ⟨gb + 1, 0, none⟩), .pointer (some ⟨gb, 0, none⟩)])) 97))
      have RM := Lib.hid (Row.new w4 97 (c5 (.slice aa na ac) (.slice ba nb bc) (.slice ca nc cc) (.slice pn n qn) (.func (.func 119) #[] #[.pointer (some ⟨gb + 1, 0, none⟩), .pointer (some ⟨gb, 0, none⟩)])))
      have BN := Lib.hid (B4.out.alloc B4.out.size (.cells (c5 (.slice aa na ac) (.slice ba nb bc) (.slice ca nc cc) (.slice pn n qn) (.func (.func 119) #[] #[.pointer (some ⟨gb + 1, 0, none⟩), .pointer (some ⟨gb, 0, none⟩)])) 97))
      have ON := Lib.hid (O4.out.below (below1 w4 (.cells (c5 (.slice aa na ac) (.slice ba nb bc) (.slice ca nc cc) (.slice pn n qn) (.func (.func 119) #[] #[.pointer (some ⟨gb + 1, 0, none⟩), .pointer (some ⟨gb, 0, none⟩)])) 97)))
      have UN := Lib.hid (Row.alloc RU4.out (.cells (c5 (.slice aa na ac) (.slice ba nb bc) (.slice ca nc cc) (.slice pn n qn) (.func (.func 119) #[] #[.pointer (some ⟨gb + 1, 0, none⟩), .pointer (some ⟨gb, 0, none⟩)])) 97))
      have CN := Lib.hid (Row.alloc RB4.out (.cells (c5 (.slice aa na ac) (.slice ba nb bc) (.slice ca nc cc) (.slice pn n qn) (.func (.func 119) #[] #[.pointer (some ⟨gb + 1, 0, none⟩), .pointer (some ⟨gb, 0, none⟩)])) 97))
      have HVM : Hid ((Value.slice pn n qn).ownBlock ≠ some w4.heap.size) := fun e => by have := HVB.out _ e; have := RB4.out.lt; omega
      have HGU : Hid (w4.heap.size ≠ gb + 1) := by unfold Hid; have := RU4.out.lt; omega
      refine wpAnyH_ready (rs := [7]) (by kernel_rfl) (by simp) ?_
      refine AllReadyH.cons rfl (fun K hK => ?_) AllReadyH.nil
      go_simp
      refine hK.out _ _ ⟨RN.out.c0, RN.out.c1, RN.out.c2⟩ (fun hHeld => ?_)
      clear hK K
      (try simp only [Act.put, List.getElem_toArray, List.getElem_cons_zero, List.getElem_cons_succ, List.setIfInBounds_toArray, List.set_cons_zero, List.set_cons_succ])
      refine wpAnyH_done (by kernel_rfl) ?_ _
      clear hHeld
      generalize w4.heap.size = gz at *
      generalize (w4.alloc (.cells (c5 (.slice aa na ac) (.slice ba nb bc) (.slice ca nc cc) (.slice pn n qn) (.func (.func 119) #[] #[.pointer (some ⟨gb + 1, 0, none⟩), .pointer (some ⟨gb, 0, none⟩)])) 97)) = w5 at *
      have m0 := RM.out.cell 0
      have m1 := RM.out.cell 1
      have m2 := RM.out.cell 2
      have m3 := RM.out.cell 3
      have m4 := RM.out.cell 4
      go_wp2_with fail
      refine (c_finish w (.slice aa na ac) (.slice ba nb bc) (.slice ca nc cc) (.slice pn n qn) (.slice va m vc) h zs (gb + 1) gb _ HF.out HG.out HZ.out HY.out BN.out ON.out UN.out CN.out (by have := LB.out; omega) (fun e => by have := HVB.out _ e; omega) (fun e => by have := HVB.out _ e; omega) (by omega)).mono ?_
      rintro e w6 ⟨rfl, ho6, hb6, hf6⟩
      have O6 := Lib.hid ho6; have B6 := Lib.hid hb6
      have R6 : Row w6 gz 97 (c5 (.slice aa na ac) (.slice ba nb bc) (.slice ca nc cc) (.slice pn n qn) (.func (.func 119) #[] #[.pointer (some ⟨gb + 1, 0, none⟩), .pointer (some ⟨gb, 0, none⟩)])) := (hf6 gz RM.out.lt HVM.out HGU.out).trans RM.out
      clear m0 m1 m2 m3 m4
      have m3 := R6.cell 3
      clear ho6 hb6 hf6 R6
      go_wp2_with fail
      go_ret3
      exact endII_yes B6.out O6.out (Nat.le_refl _) HR1.out HR2.out HE.out
    · skip
      have LZ : Hid (w.heap.size < w3.heap.size) := RC.out.lt
      have hbz := below1 w3 (.cells (c5 (.slice none 0 0) (.slice none 0 0) (.slice none 0 0) (.slice none 0 0) .nilFunc) 97)
      have RZ := Lib.hid (show RowH _ _ _ _ _ from Row.alloc RC.out (.cells (c5 (.slice none 0 0) (.slice none 0 0) (.slice none 0 0) (.slice none 0 0) .nilFunc) 97))
      have BZ := Lib.hid (bst BC.out hbz BC.out.size)
      have GZ := Lib.hid (Row.new w3 97 (c5 (.slice none 0 0) (.slice none 0 0) (.slice none 0 0) (.slice none 0 0) .nilFunc))
      have OZ := Lib.hid (OC.out.below hbz)
      have HVZ : Hid (∀ g, (Value.slice pn n qn).ownBlock = some g → g ≠ w3.heap.size) := fun g e => by have := HV.out g e; omega
      go_simp
      refine hK.out _ _ ⟨RZ.out.c0, RZ.out.c1, RZ.out.c2⟩ (fun hHeld => ?_)
      clear hK K hbz
      (try simp only [Act.put, List.getElem_toArray, List.getElem_cons_zero, List.getElem_cons_succ, List.setIfInBounds_toArray, List.set_cons_zero, List.set_cons_succ])
      have SZ : Hid (w3.heap.size < (w3.alloc (.cells (c5 (.slice none 0 0) (.slice none 0 0) (.slice none 0 0) (.slice none 0 0) .nilFunc) 97)).heap.size) := by unfold Hid; simp
      have HV2 : Hid (∀ g, (Value.slice pn n qn).ownBlock = some g → g < (w3.alloc (.cells (c5 (.slice none 0 0) (.slice none 0 0) (.slice none 0 0) (.slice none 0 0) .nilFunc) 97)).heap.size) := fun g e => by have := HV.out g e; have := SZ.out; omega
      generalize w3.heap.size = gz at *
      generalize w3.alloc (.cells (c5 (.slice none 0 0) (.slice none 0 0) (.slice none 0 0) (.slice none 0 0) .nilFunc) 97) = wz at *
      refine wpAnyH_ready (rs := [4]) (by kernel_rfl) (by simp) ?_
      refine AllReadyH.cons rfl (fun K hK => ?_) AllReadyH.nil
      go_simp
      refine (c_byChoices va m vc wz).mono ?_
      rintro e w4 ⟨rfl, hw4⟩
      have hb4 : Below wz.heap.size wz w4 := by rw [hw4]; exact ((below1 wz (.cells #[(.slice va m vc)] 24)).alloc (below1 wz (.cells #[(.slice va m vc)] 24)).size (.cells #[.int .i64 0] 3))
      have RB4 : Hid (Row w4 wz.heap.size 24 #[(.slice va m vc)]) := by unfold Hid; rw [hw4]; exact (Row.new wz 24 #[(.slice va m vc)]).alloc (.cells #[.int .i64 0] 3)
      have RU4 : Hid (Row w4 (wz.heap.size + 1) 3 #[.int .i64 0]) := by unfold Hid; rw [hw4]; exact Row.new1 wz (.cells #[(.slice va m vc)] 24) 3 #[.int .i64 0]
      have R4 := Lib.hid (RZ.out.below hb4)
      have B4 := Lib.hid (bst BZ.out hb4 BZ.out.size)
      have O4 := Lib.hid (OZ.out.below hb4)
      have LB : Hid (w.heap.size ≤ wz.heap.size) := BZ.out.size
      have HVB : Hid (∀ g, (Value.slice pn n qn).ownBlock = some g → g < wz.heap.size) := HV2.out
      have G4 := Lib.hid (Row.below GZ.out hb4)
      have LG : Hid (gz < wz.heap.size) := GZ.out.lt
      clear hb4 hw4
      refine hK.out _ _ ⟨R4.out.c0, R4.out.c1, R4.out.c2⟩ (fun hHeld => ?_)
      clear hK K
      (try simp only [Act.put, List.getElem_toArray, List.getElem_cons_zero, List.getElem_cons_succ, List.setIfInBounds_toArray, List.set_cons_zero, List.set_cons_succ])
      generalize wz.heap.size = gb at *
      refine wpAnyH_take (i := 5) (v := ?va5x5) rfl (by kernel_rfl) (by kernel_rfl) (by kernel_rfl) (fun _ _ _ h => h) (Or.inl ⟨by rfl, ?hy5x5⟩) (by assumption) ?rest5x5
      case hy5x5 => (intro w hSw; (try dsimp only at hSw); go_simp; try with_reducible rfl)
      (try simp only [Act.put, List.getElem_toArray, List.getElem_cons_zero, List.getElem_cons_succ, List.setIfInBounds_toArray, List.set_cons_zero, List.set_cons_succ])
      have hch := chgRow w4 gz (c5 (.slice aa na ac) (.slice ba nb bc) (.slice ca nc cc) (.slice pn n qn) (.func (.func 119) #[] #[.pointer (some ⟨gb + 1, 0, none⟩), .pointer (some ⟨gb, 0, none⟩)]))
      have RM := Lib.hid (Row.put G4.out (c5 (.slice aa na ac) (.slice ba nb bc) (.slice ca nc cc) (.slice pn n qn) (.func (.func 119) #[] #[.pointer (some ⟨gb + 1, 0, none⟩), .pointer (some ⟨gb, 0, none⟩)])))
      have RN := Lib.hid (show RowH _ _ _ _ _ from Row.chg R4.out hch (by have := LZ.out; omega))
      have BN := Lib.hid (below_chg B4.out hch (by have := LZ.out; omega) B4.out.size)
      have ON := Lib.hid (Own.chg O4.out hch (fun g' e => by have := HVZ.out g' e; omega))
      have UN := Lib.hid (Row.chg RU4.out hch (by have := LG.out; omega))
      have CN := Lib.hid (Row.chg RB4.out hch (by have := LG.out; omega))
      have HVM : Hid ((Value.slice pn n qn).ownBlock ≠ some gz) := fun e => HVZ.out _ e rfl
      have HGU : Hid (gz ≠ gb + 1) := by unfold Hid; have := LG.out; omega
      clear hch
      refine wpAnyH_ready (rs := [7]) (by kernel_rfl) (by simp) ?_
      refine AllReadyH.cons rfl (fun K hK => ?_) AllReadyH.nil
      refine wp_store_row 97 _ _ rfl gz (c5 (.slice aa na ac) (.slice ba nb bc) (.slice ca nc cc) (.slice pn n qn) (.func (.func 119) #[] #[.pointer (some ⟨gb + 1, 0, none⟩), .pointer (some ⟨gb, 0, none⟩)])) rfl rfl 97 _ G4.out info_marker rfl (by simp [Value.oneCell']) ?_
      refine hK.out _ _ ⟨RN.out.c0, RN.out.c1, RN.out.c2⟩ (fun hHeld => ?_)
      clear hK K
      (try simp only [Act.put, List.getElem_toArray, List.getElem_cons_zero, List.getElem_cons_succ])
      refine wpAnyH_done (by kernel_rfl) ?_ _
      clear hHeld
      generalize w4.setRow gz (c5 (.slice aa na ac) (.slice ba nb bc) (.slice ca nc cc) (.slice pn n qn) (.func (.func 119) #[] #[.pointer (some ⟨gb + 1, 0, none⟩), .pointer (some ⟨gb, 0, none⟩)])) = w5 at *
      have m0 := RM.out.cell 0
      have m1 := RM.out.cell 1
      have m2 := RM.out.cell 2
      have m3 := RM.out.cell 3
      have m4 := RM.out.cell 4
      go_wp2_with fail
      refine (c_finish w (.slice aa na ac) (.slice ba nb bc) (.slice ca nc cc) (.slice pn n qn) (.slice va m vc) h zs (gb + 1) gb _ HF.out HG.out HZ.out HY.out BN.out ON.out UN.out CN.out (by have := LB.out; omega) (fun e => by have := HVB.out _ e; omega) (fun e => by have := HVB.out _ e; omega) (by omega)).mono ?_
      rintro e w6 ⟨rfl, ho6, hb6, hf6⟩
      have O6 := Lib.hid ho6; have B6 := Lib.hid hb6
      have R6 : Row w6 gz 97 (c5 (.slice aa na ac) (.slice ba nb bc) (.slice ca nc cc) (.slice pn n qn) (.func (.func 119) #[] #[.pointer (some ⟨gb + 1, 0, none⟩), .pointer (some ⟨gb, 0, none⟩)])) := (hf6 gz RM.out.lt HVM.out HGU.out).trans RM.out
      clear m0 m1 m2 m3 m4
      have m3 := R6.cell 3
      clear ho6 hb6 hf6 R6
      go_wp2_with fail
      go_ret3
      exact endII_yes B6.out O6.out (Nat.le_refl _) HR1.out HR2.out HE.out
  · skip
    have LZ : Hid (w.heap.size < wd.heap.size) := RD.out.lt
    have hbz := below1 wd (.cells (c5 (.slice none 0 0) (.slice none 0 0) (.slice none 0 0) (.slice none 0 0) .nilFunc) 97)
    have RZ := Lib.hid (show RowH _ _ _ _ _ from Row.alloc RD.out (.cells (c5 (.slice none 0 0) (.slice none 0 0) (.slice none 0 0) (.slice none 0 0) .nilFunc) 97))
    have BZ := Lib.hid (bst BD.out hbz BD.out.size)
    have GZ := Lib.hid (Row.new wd 97 (c5 (.slice none 0 0) (.slice none 0 0) (.slice none 0 0) (.slice none 0 0) .nilFunc))
    have AZ := Lib.hid (AD.out.below hbz)
    go_simp
    refine hK.out _ _ ⟨RZ.out.c0, RZ.out.c1, RZ.out.c2⟩ (fun hHeld => ?_)
    clear hK K hbz
    (try simp only [Act.put, List.getElem_toArray, List.getElem_cons_zero, List.getElem_cons_succ, List.setIfInBounds_toArray, List.set_cons_zero, List.set_cons_succ])
    have SZ : Hid (wd.heap.size < (wd.alloc (.cells (c5 (.slice none 0 0) (.slice none 0 0) (.slice none 0 0) (.slice none 0 0) .nilFunc) 97)).heap.size) := by unfold Hid; simp
    generalize wd.heap.size = gz at *
    generalize wd.alloc (.cells (c5 (.slice none 0 0) (.slice none 0 0) (.slice none 0 0) (.slice none 0 0) .nilFunc) 97) = wz at *
    replace RD := RZ; replace BD := BZ; replace AD := AZ
    clear RZ BZ AZ
    refine wpAnyH_ready (rs := [2]) (by kernel_rfl) (by simp) ?_
    refine AllReadyH.cons rfl (fun K hK => ?_) AllReadyH.nil
    go_simp
    refine (c_coloursAtStart (.slice aa na ac) (.slice ba nb bc) (.slice ca nc cc) h _ AD.out HG.out).mono ?_
    rintro e w3 ⟨v3, rfl, ho3, hb3⟩
    obtain ⟨pn, qn, rfl⟩ := ho3.ints.shape
    have RC := Lib.hid (RD.out.below hb3)
    have BC := Lib.hid (bst BD.out hb3 BD.out.size)
    have OC := Lib.hid (ho3.mono BD.out.size)
    have HV : Hid (∀ g, (Value.slice pn (startC h).length qn).ownBlock = some g → g < w3.heap.size) := fun g e => (owns_lt ho3 e).2
    generalize hnl : (startC h).length = n at *
    clear hnl
    have GC := Lib.hid (Row.below GZ.out hb3)
    have HVZ : Hid (∀ g, (Value.slice pn n qn).ownBlock = some g → g ≠ gz) := fun g e => by have := (owns_lt ho3 e).1; have := GZ.out.lt; omega
    clear ho3 hb3
    refine hK.out _ _ ⟨RC.out.c0, RC.out.c1, RC.out.c2⟩ (fun hHeld => ?_)
    clear hK K
    (try simp only [Act.put, List.getElem_toArray, List.getElem_cons_zero, List.getElem_cons_succ, List.setIfInBounds_toArray, List.set_cons_zero, List.set_cons_succ])
    refine wpAnyH_ready (rs := [4]) (by kernel_rfl) (by simp) ?_
    refine AllReadyH.cons rfl (fun K hK => ?_) AllReadyH.nil
    go_simp
    refine (c_byChoices va m vc w3).mono ?_
    rintro e w4 ⟨rfl, hw4⟩
    have hb4 : Below w3.heap.size w3 w4 := by rw [hw4]; exact ((below1 w3 (.cells #[(.slice va m vc)] 24)).alloc (below1 w3 (.cells #[(.slice va m vc)] 24)).size (.cells #[.int .i64 0] 3))
    have RB4 : Hid (Row w4 w3.heap.size 24 #[(.slice va m vc)]) := by unfold Hid; rw [hw4]; exact (Row.new w3 24 #[(.slice va m vc)]).alloc (.cells #[.int .i64 0] 3)
    have RU4 : Hid (Row w4 (w3.heap.size + 1) 3 #[.int .i64 0]) := by unfold Hid; rw [hw4]; exact Row.new1 w3 (.cells #[(.slice va m vc)] 24) 3 #[.int .i64 0]
    have R4 := Lib.hid (RC.out.below hb4)
    have B4 := Lib.hid (bst BC.out hb4 BC.out.size)
    have O4 := Lib.hid (OC.out.below hb4)
    have LB : Hid (w.heap.size ≤ w3.heap.size) := BC.out.size
    have HVB : Hid (∀ g, (Value.slice pn n qn).ownBlock = some g → g < w3.heap.size) := HV.out
    have G4 := Lib.hid (Row.below GC.out hb4)
    have LG : Hid (gz < w3.heap.size) := GC.out.lt
    clear hb4 hw4
    refine hK.out _ _ ⟨R4.out.c0, R4.out.c1, R4.out.c2⟩ (fun hHeld => ?_)
    clear hK K
    (try simp only [Act.put, List.getElem_toArray, List.getElem_cons_zero, List.getElem_cons_succ, List.setIfInBounds_toArray, List.set_cons_zero, List.set_cons_succ])
    generalize w3.heap.size = gb at *
    refine wpAnyH_take (i := 5) (v := ?va5x6) rfl (by kernel_rfl) (by kernel_rfl) (by kernel_rfl) (fun _ _ _ h => h) (Or.inl ⟨by rfl, ?hy5x6⟩) (by assumption) ?rest5x6
    case hy5x6 => (intro w hSw; (try dsimp only at hSw); go_simp; try with_reducible rfl)
    (try simp only [Act.put, List.getElem_toArray, List.getElem_cons_zero, List.getElem_cons_succ, List.setIfInBounds_toArray, List.set_cons_zero, List.set_cons_succ])
    have hch := chgRow w4 gz (c5 (.slice aa na ac) (.slice ba nb bc) (.slice ca nc cc) (.slice pn n qn) (.func (.func 119) #[] #[.pointer (some ⟨gb + 1, 0, none⟩), .pointer (some ⟨gb, 0, none⟩)]))
    have RM := Lib.hid (Row.put G4.out (c5 (.slice aa na ac) (.slice ba nb bc) (.slice ca nc cc) (.slice pn n qn) (.func (.func 119) #[] #[.pointer (some ⟨gb + 1, 0, none⟩), .pointer (some ⟨gb, 0, none⟩)])))
    have RN := Lib.hid (show RowH _ _ _ _ _ from Row.chg R4.out hch (by have := LZ.out; omega))
    have BN := Lib.hid (below_chg B4.out hch (by have := LZ.out; omega) B4.out.size)
    have ON := Lib.hid (Own.chg O4.out hch (fun g' e => by have := HVZ.out g' e; omega))
    have UN := Lib.hid (Row.chg RU4.out hch (by have := LG.out; omega))
    have CN := Lib.hid (Row.chg RB4.out hch (by have := LG.out; omega))
    have HVM : Hid ((Value.slice pn n qn).ownBlock ≠ some gz) := fun e => HVZ.out _ e rfl
    have HGU : Hid (gz ≠ gb + 1) := by unfold Hid; have := LG.out; omega
    clear hch
    refine wpAnyH_ready (rs := [7]) (by kernel_rfl) (by simp) ?_
    refine AllReadyH.cons rfl (fun K hK => ?_) AllReadyH.nil
    refine wp_store_row 97 _ _ rfl gz (c5 (.slice aa na ac) (.slice ba nb bc) (.slice ca nc cc) (.slice pn n qn) (.func (.func 119) #[] #[.pointer (some ⟨gb + 1, 0, none⟩), .pointer (some ⟨gb, 0, none⟩)])) rfl rfl 97 _ G4.out info_marker rfl (by simp [Value.oneCell']) ?_
    refine hK.out _ _ ⟨RN.out.c0, RN.out.c1, RN.out.c2⟩ (fun hHeld => ?_)
    clear hK K
    (try simp only [Act.put, List.getElem_toArray, List.getElem_cons_zero, List.getElem_cons_succ])
    refine wpAnyH_done (by kernel_rfl) ?_ _
    clear hHeld
    generalize w4.setRow gz (c5 (.slice aa na ac) (.slice ba nb bc) (.slice ca nc cc) (.slice pn n qn) (.func (.func 119) #[] #[.pointer (some ⟨gb + 1, 0, none⟩), .pointer (some ⟨gb, 0, none⟩)])) = w5 at *
    have m0 := RM.out.cell 0
    have m1 := RM.out.cell 1
    have m2 := RM.out.cell 2
    have m3 := RM.out.cell 3
    have m4 := RM.out.cell 4
    go_wp2_with fail
    refine (c_finish w (.slice aa na ac) (.slice ba nb bc) (.slice ca nc cc) (.slice pn n qn) (.slice va m vc) h zs (gb + 1) gb _ HF.out HG.out HZ.out HY.out BN.out ON.out UN.out CN.out (by have := LB.out; omega) (fun e => by have := HVB.out _ e; omega) (fun e => by have := HVB.out _ e; omega) (by omega)).mono ?_
    rintro e w6 ⟨rfl, ho6, hb6, hf6⟩
    have O6 := Lib.hid ho6; have B6 := Lib.hid hb6
    have R6 : Row w6 gz 97 (c5 (.slice aa na ac) (.slice ba nb bc) (.slice ca nc cc) (.slice pn n qn) (.func (.func 119) #[] #[.pointer (some ⟨gb + 1, 0, none⟩), .pointer (some ⟨gb, 0, none⟩)])) := (hf6 gz RM.out.lt HVM.out HGU.out).trans RM.out
    clear m0 m1 m2 m3 m4
    have m3 := R6.cell 3
    clear ho6 hb6 hf6 R6
    go_wp2_with fail
    go_ret3
    exact endII_yes B6.out O6.out (Nat.le_refl _) HR1.out HR2.out HE.out
end Go.Proofs.Ytdagkbgobnaijaa
