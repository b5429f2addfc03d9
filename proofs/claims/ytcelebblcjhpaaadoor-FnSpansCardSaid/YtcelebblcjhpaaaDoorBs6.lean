/- Contracts of chapter 2: the reference's BothBits and WithoutBits. -/
import Derived.Test.YtcelebblcjhpaaaDoorBs5
namespace Go.Proofs.YtcelebblcjhpaaaDoor
open Go.RowKit Pb

theorem wl_self (zs : List Int) : wl zs.length (fun k => zs.getD k 0) = zs := by
  apply List.ext_getElem (by simp [wl])
  intro j h1 h2
  simp [wl, List.getD, h2]
theorem wl_congr {f g : Nat → Int} {n : Nat} (h : ∀ k, k < n → f k = g k) : wl n f = wl n g := by
  apply List.ext_getElem (by simp [wl])
  intro j h1 h2
  simp [wl] at h1
  simp [wl, h j h1]
theorem wl_set (F f : Nat → Int) {n k : Nat} (_ : k < n) : (wl n (part F f k)).set k (F k) = wl n (part F f (k + 1)) := by
  apply List.ext_getElem (by simp [wl])
  intro j h1 h2
  simp [wl] at h1
  rw [List.getElem_set]
  by_cases e : k = j
  · subst e; simp [wl, part]
  · rw [if_neg e]
    simp only [wl, List.getElem_map, List.getElem_range, part]
    by_cases q : j < k
    · rw [if_pos q, if_pos (by omega)]
    · rw [if_neg q, if_neg (by omega)]

set_option maxHeartbeats 800000 in
theorem c_sBothBits_no (la lb : Int) (va vb : Value) (za zb : List Int) (w : World) (ha : IntsAt w va za) (hb : IntsAt w vb zb) (hN : ¬ (Bok la za ∧ Bok lb zb ∧ la = lb)) : Calls Tryd.prog 79 #[bm la va, bm lb vb] w fun e w' => e = .returned (.tuple #[bm 0 (.slice none 0 0), .bool false]) ∧ Below w.heap.size w w' := by
  have HB := Lib.hid ((((Below.refl w.heap.size w).alloc (Nat.le_refl _) (.cells (cb la va) 25)).alloc (by simp) (.cells (cb lb vb) 25)).alloc (by simp; omega) (.cells (cb 0 (.slice none 0 0)) 25))
  have va' := Lib.hid (ha.below HB.out)
  have vb' := Lib.hid (hb.below HB.out); clear ha hb
  have s0 : RowB (((w.alloc (.cells (cb la va) 25)).alloc (.cells (cb lb vb) 25)).alloc (.cells (cb 0 (.slice none 0 0)) 25)) (w.heap.size + 1 + 1) 0 (.slice none 0 0) := Row.new2 w _ _ _ _
  go_enter Tryd.func79, Tryd.ntmps79
  go_wp2_with fail
  refine (c_l2Two_no la lb va vb za zb _ va'.out vb'.out hN).mono ?_
  rintro e w1 ⟨rfl, hb1⟩
  have s1 := Row.below s0 hb1
  have B1 := Lib.hid (bstep' HB.out hb1 HB.out.size)
  clear s0 hb1
  go_wp2_with (refine wl_storeB rfl _ _ rfl (w.heap.size + 1 + 1) 0 (.slice none 0 0) _ _ s1 rfl rfl rfl ?_)
  exact bodyPost_ret (res_row_slot Tryd.results79 (Row.put s1 (cb 0 (.slice none 0 0))) rfl rfl Tryd.underlying25 rfl info_bits) rfl ⟨rfl, below_setRow B1.out (by omega) _⟩
set_option maxHeartbeats 1600000 in
theorem c_sBothBits_yes (la lb : Int) (va vb : Value) (za zb : List Int) (w : World) (ha : IntsAt w va za) (hb : IntsAt w vb zb) (ga : Bok la za) (gb : Bok lb zb) (hl : la = lb) : Calls Tryd.prog 79 #[bm la va, bm lb vb] w fun e w' => ∃ v', e = .returned (.tuple #[bm la v', .bool true]) ∧ Own w' w.heap.size v' (zipW .and za zb) ∧ Below w.heap.size w w' := by
  have HB := Lib.hid ((((Below.refl w.heap.size w).alloc (Nat.le_refl _) (.cells (cb la va) 25)).alloc (by simp) (.cells (cb lb vb) 25)).alloc (by simp; omega) (.cells (cb 0 (.slice none 0 0)) 25))
  have va' := Lib.hid (ha.below HB.out)
  have vb' := Lib.hid (hb.below HB.out); clear ha hb
  have s0 : RowB (((w.alloc (.cells (cb la va) 25)).alloc (.cells (cb lb vb) 25)).alloc (.cells (cb 0 (.slice none 0 0)) 25)) (w.heap.size + 1 + 1) 0 (.slice none 0 0) := Row.new2 w _ _ _ _
  have r0 : RowB (((w.alloc (.cells (cb la va) 25)).alloc (.cells (cb lb vb) 25)).alloc (.cells (cb 0 (.slice none 0 0)) 25)) w.heap.size la va := ((Row.new w _ _).alloc _).alloc _
  have t0 : RowB (((w.alloc (.cells (cb la va) 25)).alloc (.cells (cb lb vb) 25)).alloc (.cells (cb 0 (.slice none 0 0)) 25)) (w.heap.size + 1) lb vb := (Row.new1 w _ _ _).alloc _
  have HL : Hid ((za.length : Int) = (la + 15) / 16) := ga.2.2.1
  have HLB : Hid (zb.length = za.length) := by
    have h1 := ga.2.2.1
    have h2 := gb.2.2.1
    rw [← hl] at h2
    unfold Hid
    omega
  have hl0 := ga.1
  have hl1 := ga.2.1
  have HE := Lib.hid hl
  clear hl
  obtain ⟨n, hn⟩ : ∃ n, n = za.length := ⟨_, rfl⟩
  have HN : Hid (za.length = n) := hn.symm
  have HNB : Hid (zb.length = n) := by unfold Hid; rw [HLB.out, hn]
  rw [← hn] at HL
  clear hn
  go_enter Tryd.func79, Tryd.ntmps79
  go_wp2_with fail
  refine (c_l2Two_yes la lb va vb za zb _ va'.out vb'.out ga gb HE.out).mono ?_
  rintro e w1 ⟨rfl, hb1⟩
  have r1 := Row.below r0 hb1
  have s1 := Row.below s0 hb1
  have t1 := Row.below t0 hb1
  have q0 := RowB.c0 r1
  have q1 := RowB.c1 r1
  have v1 := Lib.hid (va'.out.below hb1)
  have u1 := Lib.hid (vb'.out.below hb1)
  have B1 := Lib.hid (bstep' HB.out hb1 HB.out.size)
  have hw1 : w.heap.size + 1 + 1 < w1.heap.size := Row.lt s1
  clear r0 s0 t0 hb1 r1
  go_wp2_with fail
  refine (c_l2Own la va za _ v1.out (by rw [HN.out]; have := HL.out; omega)).mono ?_
  rintro e w2 ⟨v2, rfl, ho, hb2⟩
  have s2 := Lib.hid (Row.below s1 hb2)
  have t2 := Lib.hid (Row.below t1 hb2)
  have u2 := Lib.hid (u1.out.below hb2)
  have B2 := Lib.hid (bstep' B1.out hb2 B1.out.size)
  have HS := hb2.size
  obtain ⟨vg, vc, hvs, hvg⟩ := ho.shape
  have HO := Lib.hid ho
  have HG := Lib.hid hvg
  clear s1 t1 hb2 q0 q1 ho hvg
  rw [HN.out] at hvs
  subst hvs
  obtain ⟨ab, cbb, hvb, hcb⟩ := u2.out
  rw [HNB.out] at hvb hcb
  subst hvb
  have HCB := Lib.hid hcb
  clear hcb u2
  have EZ : Hid (zipW .and za zb = wl n fun k => bits .and .i64 (za.getD k 0) (zb.getD k 0)) := by unfold Hid zipW; rw [HN.out]
  obtain ⟨fa, hfa⟩ : ∃ f : Nat → Int, f = fun k => za.getD k 0 := ⟨_, rfl⟩
  obtain ⟨F, hF⟩ : ∃ f : Nat → Int, f = fun k => bits .and .i64 (za.getD k 0) (zb.getD k 0) := ⟨_, rfl⟩
  have EA : Hid (wl n fa = za) := by unfold Hid; rw [hfa, ← HN.out]; exact wl_self za
  have FK : Hid (∀ k, F k = bits .and .i64 (fa k) (zb.getD k 0)) := fun k => by rw [hF, hfa]
  rw [← hF] at EZ
  clear hfa hF
  have hn6 : n ≤ 6 := by have := HL.out; omega
  go_wp2
  go_loopw [18] (fun i wr => ∃ k : Nat, k ≤ n ∧ i = .int .i64 k ∧ Own wr w1.heap.size (.slice vg n vc) (wl n (part F fa k)) ∧ RowB wr w2.heap.size la (.slice vg n vc) ∧ RowB wr (w.heap.size + 1) lb (.slice ab n cbb) ∧ RowB wr (w.heap.size + 1 + 1) 0 (.slice none 0 0) ∧ Below w.heap.size w wr ∧ Hid (∀ b off, ab = Option.some ⟨b, off, none⟩ → ∀ i, i < n → wr.cell? ⟨b, off + i, none⟩ = Option.some (.int .i64 (zb.getD i 0)))) (fun i _ => n - (intOf i).toNat)
  case atStart =>
    refine ⟨0, by omega, rfl, ?_, Row.new w2 _ _, t2.out.alloc _, s2.out.alloc _, B2.out.alloc B2.out.size _, fun b off e i hi => ?_⟩
    · rw [part_zero, EA.out]
      exact HO.out.below ((Below.refl _ _).alloc (Nat.le_refl _) _)
    · obtain ⟨b', off', e', hc'⟩ := HCB.out (by omega)
      rw [e] at e'
      cases e'
      have q := hc' i hi
      exact ((Below.refl _ _).alloc (Nat.le_refl _) _ : Below w2.heap.size w2 _).cell (p := ⟨b, off + i, none⟩) (block_lt_of_cell q) |>.trans q
  case round =>
    obtain ⟨k, hk, rfl, ho, hr, ht, hs, hb, hc⟩ := hrel
    by_cases hlt : k < n
    · have hlen : (wl n (part F fa k)).length = n := wl_length _ _
      obtain ⟨g, c, hgv, hgB⟩ := ho.some (by rw [hlen]; omega)
      rw [hlen] at hgv
      have eg : vg = Option.some ⟨g, 0, none⟩ := by cases hgv; rfl
      subst eg
      obtain ⟨b0, off0, e0, _⟩ := HCB.out (by omega)
      subst e0
      have qb := hc.out b0 off0 rfl k hlt
      have hbw : b0 < w1.heap.size := by
        obtain ⟨_, _, e', hq⟩ := u1.out
        simp only [Value.slice.injEq] at e'
        obtain ⟨b'', off'', e'', hq'⟩ := hq (by rw [HNB.out]; omega)
        rw [← e'.1] at e''
        cases e''
        exact block_lt_of_cell (hq' 0 (by rw [HNB.out]; omega))
      have hgb : g ≠ b0 := by omega
      have hglt : g < w2.heap.size := Own.lt_of HO.out
      have hown' : wr.ownsRow w1.heap.size 3 1 (.slice (Option.some ⟨g, 0, none⟩) n vc) n ((wl n (part F fa k)).map (Value.int .i64)) := by
        have := ho; unfold Own at this; rwa [hlen] at this
      have hfr := hown'.frozenAt k
      have qx : wr.cell? ⟨g, k, none⟩ = Option.some (.int .i64 (fa k)) := by
        rw [hown'.cellAt k (by omega), List.getElem?_map, List.getElem?_eq_getElem (by rw [hlen]; exact hlt)]
        simp [wl, part]
      obtain ⟨s1', s2'⟩ := hown'.stored k (.int .i64 (F k))
      have S1 : Hid (Own (wr.setCell ⟨g, k, none⟩ (.int .i64 (F k))) w1.heap.size (.slice (Option.some ⟨g, 0, none⟩) n vc) (wl n (part F fa (k + 1)))) := by
        unfold Hid Own
        rw [wl_length, ← wl_set F fa hlt, List.map_set]
        exact s1'
      have R1 := Lib.hid (Row.other hr ⟨g, k, none⟩ (by simp; omega) (.int .i64 (F k)))
      have T1 := Lib.hid (Row.other ht ⟨g, k, none⟩ (by simp; omega) (.int .i64 (F k)))
      have U1 := Lib.hid (Row.other hs ⟨g, k, none⟩ (by simp; omega) (.int .i64 (F k)))
      have L1 := Lib.hid (hb.setCell (p := ⟨g, k, none⟩) (by simp; omega) (.int .i64 (F k)))
      have C1 : Hid (∀ b off, (Option.some ⟨b0, off0, none⟩ : Option Addr) = Option.some ⟨b, off, none⟩ → ∀ i, i < n → (wr.setCell ⟨g, k, none⟩ (.int .i64 (F k))).cell? ⟨b, off + i, none⟩ = Option.some (.int .i64 (zb.getD i 0))) := fun b off e i hi => by
        cases e
        rw [World.cell?_of_block (w := wr) (a := ⟨b0, off0 + i, none⟩) (heap_setCell_other wr ⟨g, k, none⟩ b0 _ (fun h => hgb h.symm))]
        exact hc.out b0 off0 rfl i hi
      have p1 := hr.c1
      have p2 := ht.c1
      have FE := FK.out k
      have HFE := Lib.hid FE
      have i1 : (k : Int) < (n : Int) := by omega
      rw [FE] at S1 R1 T1 U1 L1 C1
      clear s1' s2' hown' ho hr ht hs hb hc FE hgv hlen
      generalize zb.getD k 0 = y at *
      go_wp2
      go_region
      go_wp2
      go_roundw
      case rel => exact ⟨k + 1, by omega, by go_num, S1.out.drewN 1, R1.out, T1.out, U1.out, below_drew L1.out, C1.out⟩
      case measure => simp [intOf]; omega
    · obtain rfl : k = n := by omega
      have e6 : wl k (part F fa k) = wl k F := wl_congr (fun j hj => by simp [part, hj])
      rw [e6] at ho
      clear e6
      go_wp2_with (first
        | (refine wl_loadB rfl _ rfl w2.heap.size la (.slice vg k vc) hr rfl ?_)
        | (refine wl_storeB rfl _ _ rfl (w.heap.size + 1 + 1) la (.slice vg k vc) _ _ hs rfl rfl rfl ?_))
      refine bodyPost_ret (res_row_slot Tryd.results79 (Row.put hs (cb la (.slice vg k vc))) rfl rfl Tryd.underlying25 rfl info_bits) rfl ⟨_, rfl, ?_, below_setRow hb (by omega) _⟩
      rw [EZ.out]
      exact Own.setRow' (ho.mono (by omega)) (fun x hx => by have := HG.out x hx; omega)
end Go.Proofs.YtcelebblcjhpaaaDoor
