/- The walk of laws.FnSizes. -/
import Derived.Test.YtlaembbgjgpmbaaDoorCtr4
import Derived.Test.YtlaembbgjgpmbaaDoorDraw1
namespace Go.Proofs.YtlaembbgjgpmbaaDoor.xSizes
open Go.RowKit

theorem own_of_row {w : World} {B : Nat} {v : Value} (h : w.ownsRow B 3 1 v 41 (rowOf 41)) : Own w B v Pl.tab := h
/-- What the law asks of a size that has a class. -/
theorem size_facts {s : Int} (h : Pl.inR s = true) : ∃ k : Nat, k < 41 ∧ Pl.cK s = k ∧ Pl.cN s = Pl.at_ k ∧ s ≤ Pl.at_ k ∧ (0 < k → Pl.at_ (k - 1) < s) ∧ Pl.wst s = Pl.at_ k - s ∧ 8 * Pl.wst s ≤ s := by
  have hr := Pl.inR_iff.1 h
  refine ⟨Pl.cls s, Pl.cls_lt hr.2, by simp [Pl.cK, h], by simp [Pl.cN, h], Pl.cls_ge hr.2, fun h0 => Pl.cls_before _ (by omega) (by have := Pl.cls_lt hr.2; omega), ?_, Pl.wst_eighth h⟩
  rw [Pl.wst_yes h]
  simp [Pl.cN, h]
set_option maxRecDepth 100000 in
set_option maxHeartbeats 1000000 in
theorem walk (v : Value) (zs : List Int) (v2 : Value) (zs2 : List Int) (w : World) (hz : BytesAt w v zs) (hz2 : BytesAt w v2 zs2) (hT : TabW w) : Calls Tryd.prog 3 #[v, v2] w fun e w' => e = .returned (.bool true) ∧ Below w.heap.size w w' := by
  obtain ⟨_, _, a, ca, hv, _⟩ := id hz
  obtain ⟨_, _, a2, ca2, hv2, _⟩ := id hz2
  have HZ := Lib.hid hz; have HZ2 := Lib.hid hz2; clear hz hz2
  have hl : Hid (Pl.tab.length ≤ 9223372036854775806) := by unfold Hid; rw [Pl.len]; omega
  subst hv
  subst hv2
  generalize hn : zs.length = n at *
  generalize hn2 : zs2.length = n2 at *
  clear hn hn2
  by_cases hm : 1048576 < wrap64 ((n : Int) + (n2 : Int))
  · go_enter Tryd.func3, Tryd.ntmps3
    go_wp2
    go_ret
    exact ⟨rfl, Below.refl _ _⟩
  · go_enter Tryd.func3, Tryd.ntmps3
    go_wp2_with fail
    refine (c_DrawClassFor _ zs _ HZ.out).mono ?_
    rintro e w1 ⟨s, hs, rfl, b1⟩
    have hT1 := hT.below b1 hT.pos
    go_wp2_with fail
    refine (c_implClassFor s _ hT1).mono ?_
    rintro e w2 ⟨rfl, rfl⟩
    go_wp2_with fail
    refine (c_specClassFor s _).mono ?_
    rintro e w3 ⟨rfl, b3⟩
    have B3 : Below w.heap.size w w3 := b1.trans (b3.mono b1.size)
    go_wp2_with fail
    refine (c_implWasteOf s _ (hT.below B3 hT.pos)).mono ?_
    rintro e w4 ⟨rfl, rfl⟩
    go_wp2_with fail
    refine (c_specWasteOf s _).mono ?_
    rintro e w5 ⟨rfl, b5⟩
    have B5 : Below w.heap.size w w5 := B3.trans (b5.mono B3.size)
    go_wp2_with fail
    refine (c_implClassesOf _ (hT.below B5 hT.pos)).mono ?_
    rintro e w6 ⟨v6, rfl, ho6, b6⟩
    have B6 : Below w.heap.size w w6 := B5.trans (b6.mono B5.size)
    have O6 := Lib.hid (own_of_row ho6)
    obtain ⟨g, cap, hv6, hcc⟩ := row_shape ho6
    have HCC := Lib.hid hcc
    have HB6 := Lib.hid (ho6.lt g (by rw [hv6]; rfl))
    clear hcc ho6
    subst hv6
    go_wp2_with fail
    refine (c_specClassesOf _).mono ?_
    rintro e w7 ⟨v7, rfl, ho7, b7⟩
    have B7 : Below w.heap.size w w7 := B6.trans (b7.mono B6.size)
    have O7 := Lib.hid (own_of_row ho7); clear ho7
    go_wp2_with fail
    refine (c_sameInts _ _ Pl.tab Pl.tab _ (O6.out.below b7).ints O7.out.ints hl.out).mono ?_
    rintro e w8 ⟨rfl, n8, rfl⟩
    rw [decide_eq_true (rfl : Pl.tab = Pl.tab)]
    have B8 : Below w.heap.size w (w7.drewN n8) := below_drewN B7 n8
    have CC : Hid (∀ k, k < 41 → (w7.drewN n8).cell? ⟨g, k, none⟩ = some (.int .i64 (Pl.at_ k))) := fun k hk => by
      show w7.cell? ⟨g, k, none⟩ = _
      rw [b7.cell (p := ⟨g, k, none⟩) HB6.out.2]
      exact HCC.out k hk
    generalize w7.drewN n8 = w9 at *
    clear b7 B7 O7 O6 B6 B5 B3 b1 b3 b5 b6 HB6 HCC hT1
    cases hr : Pl.inR s with
    | false =>
      go_wp2_with fail
      refine (c_DrawSumWaste _ zs2 _ (HZ2.out.below B8)).mono ?_
      rintro e wA ⟨u, ys, hys, rfl, ho, bA⟩
      have BA : Below w.heap.size w wA := B8.trans (bA.mono B8.size)
      have OA := Lib.hid ho; clear ho
      have f1 := Pl.sw_eighth ys
      have f2 := Pl.sw_bd ys
      go_wp2_with fail
      refine (c_implSumWaste _ ys _ OA.out.ints (hT.below BA hT.pos) (by omega)).mono ?_
      rintro e wB ⟨rfl, rfl⟩
      go_wp2_with fail
      refine (c_specSumWaste _ ys _ OA.out.ints (by omega)).mono ?_
      rintro e wC ⟨rfl, bC⟩
      have BC : Below w.heap.size w wC := BA.trans (bC.mono BA.size)
      cases hok : Pl.swOk ys with
      | false =>
        go_wp2
        go_ret
        exact ⟨rfl, BC⟩
      | true =>
        go_wp2
        go_ret
        exact ⟨rfl, BC⟩
    | true =>
      obtain ⟨k, k1, k2, k3, k4, k5, k6, k7⟩ := size_facts hr
      have q := CC.out k k1
      have K5 := Lib.hid k5; clear k5
      rw [k2, k3]
      have ab := Pl.at_bd k k1
      have n6 : (Pl.wst s != Pl.at_ k - s) = false := by rw [bne_eq_false_iff_eq]; exact k6
      have wb := Pl.wst_bd s
      clear k2 k3 k6
      by_cases h0 : 0 < k
      · have q' := CC.out (k - 1) (by omega)
        have k5 := K5.out h0
        go_wp2_with fail
        refine (c_DrawSumWaste _ zs2 _ (HZ2.out.below B8)).mono ?_
        rintro e wA ⟨u, ys, hys, rfl, ho, bA⟩
        have BA : Below w.heap.size w wA := B8.trans (bA.mono B8.size)
        have OA := Lib.hid ho; clear ho
        have f1 := Pl.sw_eighth ys
        have f2 := Pl.sw_bd ys
        go_wp2_with fail
        refine (c_implSumWaste _ ys _ OA.out.ints (hT.below BA hT.pos) (by omega)).mono ?_
        rintro e wB ⟨rfl, rfl⟩
        go_wp2_with fail
        refine (c_specSumWaste _ ys _ OA.out.ints (by omega)).mono ?_
        rintro e wC ⟨rfl, bC⟩
        have BC : Below w.heap.size w wC := BA.trans (bC.mono BA.size)
        cases hok : Pl.swOk ys with
        | false =>
          go_wp2
          go_ret
          exact ⟨rfl, BC⟩
        | true =>
          go_wp2
          go_ret
          exact ⟨rfl, BC⟩
      · obtain rfl : k = 0 := by omega
        go_wp2_with fail
        refine (c_DrawSumWaste _ zs2 _ (HZ2.out.below B8)).mono ?_
        rintro e wA ⟨u, ys, hys, rfl, ho, bA⟩
        have BA : Below w.heap.size w wA := B8.trans (bA.mono B8.size)
        have OA := Lib.hid ho; clear ho
        have f1 := Pl.sw_eighth ys
        have f2 := Pl.sw_bd ys
        go_wp2_with fail
        refine (c_implSumWaste _ ys _ OA.out.ints (hT.below BA hT.pos) (by omega)).mono ?_
        rintro e wB ⟨rfl, rfl⟩
        go_wp2_with fail
        refine (c_specSumWaste _ ys _ OA.out.ints (by omega)).mono ?_
        rintro e wC ⟨rfl, bC⟩
        have BC : Below w.heap.size w wC := BA.trans (bC.mono BA.size)
        cases hok : Pl.swOk ys with
        | false =>
          go_wp2
          go_ret
          exact ⟨rfl, BC⟩
        | true =>
          go_wp2
          go_ret
          exact ⟨rfl, BC⟩
end Go.Proofs.YtlaembbgjgpmbaaDoor.xSizes
