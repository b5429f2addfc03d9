/- Contracts of both sides' SumWaste, PagesFor, SlotsIn and TailOf. -/
import Derived.Test.YtlaembbgjgpmbaaDoorCtr2
namespace Go.Proofs.YtlaembbgjgpmbaaDoor
open Go.RowKit

set_option maxHeartbeats 400000 in
theorem c_implSumWaste (v : Value) (zs : List Int) (w : World) (hA : IntsAt w v zs) (hT : TabW w) (hm : zs.length ≤ 1048576) :
    Calls Tryd.prog 21 #[v] w fun e w' => e = .returned (.tuple #[.int .i64 (Pl.swW zs), .int .i64 (Pl.swS zs), .bool (Pl.swOk zs)]) ∧ w = w' := by
  obtain ⟨a, ca, rfl, hA⟩ := hA
  by_cases h40 : 40 < zs.length
  · have e := Pl.swOk_long h40
    obtain ⟨e1, e2⟩ := Pl.sw_no e
    have E := Lib.hid e; have E1 := Lib.hid e1; have E2 := Lib.hid e2
    clear e e1 e2 hA
    generalize zs.length = n at *
    go_enter Tryd.func21, Tryd.ntmps21
    go_wp2
    go_ret3
    exact ⟨r_iib E1.out.symm E2.out.symm E.out.symm, rfl⟩
  · generalize hn : zs.length = n at *
    have HN := Lib.hid hn; have HA := Lib.hid hA
    clear hn hA
    go_enter Tryd.func21, Tryd.ntmps21
    go_wp2
    go_loop [5, 6, 16] (fun x y i => ∃ k : Nat, k ≤ n ∧ i = .int .i64 k ∧ x = .int .i64 (Pl.sumW (zs.take k)) ∧ y = .int .i64 (Pl.sumS (zs.take k)) ∧ Hid ((zs.take k).all Pl.inR = true)) (fun _ _ i => n - (intOf i).toNat)
    case atStart => exact ⟨0, Nat.zero_le _, rfl, rfl, rfl, rfl⟩
    case round =>
      obtain ⟨k, hk, rfl, rfl, rfl, ha⟩ := hrel
      have b1 := Pl.sumW_bd (zs.take k)
      have b2 := Pl.sumS_bd (zs.take k) ha.out
      have b3 : ((zs.take k).length : Int) ≤ 40 := by rw [List.length_take, HN.out]; omega
      by_cases hlt : k < n
      · have hkl : k < zs.length := by rw [HN.out]; exact hlt
        obtain ⟨b, off, ha2, hc⟩ := HA.out (by omega)
        have q := hc k hlt
        clear hc
        have s1 := Lib.hid (Pl.sumW_snoc hkl); have s2 := Lib.hid (Pl.sumS_snoc hkl); have s3 := Lib.hid (Pl.all_snoc hkl)
        have bad : Hid (Pl.inR (zs.getD k 0) = false → zs.all Pl.inR = false) := Pl.all_false_of hkl
        generalize zs.getD k 0 = z at *
        have b4 := Pl.wst_bd z
        subst ha2
        cases hr : Pl.inR z with
        | true =>
          have b5 := Pl.inR_iff.1 hr
          go_wp2_with (go_at_call 15; refine (c_implWasteOf _ _ hT).mono ?_; rintro e w' ⟨rfl, rfl⟩)
          go_round
          case rel => exact ⟨k + 1, by omega, by go_num, by rw [s1.out], by rw [s2.out], by unfold Hid; rw [s3.out, ha.out, hr]; rfl⟩
          case measure => simp [intOf]; omega
        | false =>
          have e := Pl.swOk_bad (bad.out hr)
          obtain ⟨e1, e2⟩ := Pl.sw_no e
          have E := Lib.hid e; have E1 := Lib.hid e1; have E2 := Lib.hid e2
          clear e e1 e2
          go_wp2_with (go_at_call 15; refine (c_implWasteOf _ _ hT).mono ?_; rintro e w' ⟨rfl, rfl⟩)
          go_ret3
          exact ⟨r_iib E1.out.symm E2.out.symm E.out.symm, rfl⟩
      · have ht : zs.take k = zs := List.take_of_length_le (by rw [HN.out]; omega)
        have ha' := ha.out
        rw [ht] at ha' b1 b2 ⊢
        have e := Pl.swOk_good (zs := zs) (by rw [HN.out]; omega) ha'
        obtain ⟨e1, e2⟩ := Pl.sw_yes e
        have E := Lib.hid e; have E1 := Lib.hid e1; have E2 := Lib.hid e2
        clear e e1 e2 ha ht ha'
        go_wp2
        go_ret3
        exact ⟨r_iib E1.out.symm E2.out.symm E.out.symm, rfl⟩

set_option maxHeartbeats 400000 in
theorem c_specSumWaste (v : Value) (zs : List Int) (w : World) (hA : IntsAt w v zs) (hm : zs.length ≤ 1048576) :
    Calls Tryd.prog 22 #[v] w fun e w' => e = .returned (.tuple #[.int .i64 (Pl.swW zs), .int .i64 (Pl.swS zs), .bool (Pl.swOk zs)]) ∧ Below w.heap.size w w' := by
  obtain ⟨a, ca, rfl, hA⟩ := hA
  generalize hn : zs.length = n at *
  have HN := Lib.hid hn; have HA := Lib.hid hA
  clear hn hA
  go_enter Tryd.func22, Tryd.ntmps22
  go_wp2
  go_loopw [5, 6, 13] (fun x y i wr => ∃ k : Nat, k ≤ n ∧ i = .int .i64 k ∧ x = .int .i64 (Pl.sumW (zs.take k)) ∧ y = .int .i64 (Pl.sumS (zs.take k)) ∧ Hid ((zs.take k).all Pl.inR = true) ∧ Below w.heap.size w wr) (fun _ _ i _ => n - (intOf i).toNat)
  case atStart => exact ⟨0, Nat.zero_le _, rfl, rfl, rfl, rfl, Below.refl _ _⟩
  case round =>
    obtain ⟨k, hk, rfl, rfl, rfl, ha, hbr⟩ := hrel
    have hsz := hbr.size
    have b1 := Pl.sumW_bd (zs.take k)
    have b2 := Pl.sumS_bd (zs.take k) ha.out
    have b3 : ((zs.take k).length : Int) ≤ 1048576 := by rw [List.length_take, HN.out]; omega
    by_cases hlt : k < n
    · have hkl : k < zs.length := by rw [HN.out]; exact hlt
      obtain ⟨b, off, ha2, hc⟩ := HA.out (by omega)
      have hq := hc k hlt
      have q : wr.cell? ⟨b, off + k, none⟩ = some (.int .i64 (zs.getD k 0)) := (hbr.cell (p := ⟨b, off + k, none⟩) (block_lt_of_cell hq)).trans hq
      clear hc hq
      have s1 := Lib.hid (Pl.sumW_snoc hkl); have s2 := Lib.hid (Pl.sumS_snoc hkl); have s3 := Lib.hid (Pl.all_snoc hkl)
      have bad : Hid (Pl.inR (zs.getD k 0) = false → zs.all Pl.inR = false) := Pl.all_false_of hkl
      generalize zs.getD k 0 = z at *
      have b4 := Pl.wst_bd z
      subst ha2
      cases hr : Pl.inR z with
      | true =>
        have b5 := Pl.inR_iff.1 hr
        go_wp2_with (go_at_call 16; refine (c_specWasteOf _ _).mono ?_; rintro e w1 ⟨rfl, hb1⟩)
        go_roundw
        case rel => exact ⟨k + 1, by omega, by go_num, by rw [s1.out], by rw [s2.out], by unfold Hid; rw [s3.out, ha.out, hr]; rfl, hbr.trans (hb1.mono hsz)⟩
        case measure => simp [intOf]; omega
      | false =>
        have e := Pl.swOk_bad (bad.out hr)
        obtain ⟨e1, e2⟩ := Pl.sw_no e
        have E := Lib.hid e; have E1 := Lib.hid e1; have E2 := Lib.hid e2
        clear e e1 e2
        go_wp2_with (go_at_call 16; refine (c_specWasteOf _ _).mono ?_; rintro e w1 ⟨rfl, hb1⟩)
        go_ret3
        exact ⟨r_iib E1.out.symm E2.out.symm E.out.symm, hbr.trans (hb1.mono hsz)⟩
    · have ht : zs.take k = zs := List.take_of_length_le (by rw [HN.out]; omega)
      have ha' := ha.out
      rw [ht] at ha' b1 b2 ⊢
      clear ha ht
      by_cases h40 : 40 < n
      · have e := Pl.swOk_long (zs := zs) (by rw [HN.out]; exact h40)
        obtain ⟨e1, e2⟩ := Pl.sw_no e
        have E := Lib.hid e; have E1 := Lib.hid e1; have E2 := Lib.hid e2
        clear e e1 e2 ha'
        go_wp2
        go_ret3
        exact ⟨r_iib E1.out.symm E2.out.symm E.out.symm, hbr⟩
      · have e := Pl.swOk_good (zs := zs) (by rw [HN.out]; omega) ha'
        obtain ⟨e1, e2⟩ := Pl.sw_yes e
        have E := Lib.hid e; have E1 := Lib.hid e1; have E2 := Lib.hid e2
        clear e e1 e2 ha'
        go_wp2
        go_ret3
        exact ⟨r_iib E1.out.symm E2.out.symm E.out.symm, hbr⟩

theorem c_isClass (c : Int) (w : World) : Calls Tryd.prog 41 #[.int .i64 c] w fun e w' => e = .returned (.bool (Pl.isCl c)) ∧ w = w' := by
  by_cases h1 : 0 ≤ c
  · by_cases h2 : c < 41
    all_goals
      go_enter Tryd.func41, Tryd.ntmps41
      go_wp2
      go_ret
      exact ⟨r_b (by simp [Pl.isCl, h1]; omega), rfl⟩
  · go_enter Tryd.func41, Tryd.ntmps41
    go_wp2
    go_ret
    exact ⟨r_b (Pl.isCl_false.2 (by omega)).symm, rfl⟩
theorem c_fillsWell (r s : Int) (w : World) (h1 : 1 ≤ s) (h2 : s ≤ 256) (h3 : 1 ≤ r) (h4 : r ≤ 512) : Calls Tryd.prog 42 #[.int .i64 r, .int .i64 s] w fun e w' => e = .returned (.bool (Pl.fits r s)) ∧ w = w' := by
  go_enter Tryd.func42, Tryd.ntmps42
  go_wp2
  go_ret
  exact ⟨r_b (Pl.fits_impl h1 h3).symm, rfl⟩
set_option maxHeartbeats 400000 in
theorem c_implPagesFor (c : Int) (w : World) (hT : TabW w) : Calls Tryd.prog 26 #[.int .i64 c] w fun e w' => e = .returned (.tuple #[.int .i64 (Pl.pgOf c), .bool (Pl.isCl c)]) ∧ w = w' := by
  cases hc : Pl.isCl c with
  | false =>
    obtain ⟨e1, _, _⟩ := Pl.cl_no hc
    have E1 := Lib.hid e1; clear e1
    go_enter Tryd.func26, Tryd.ntmps26
    go_wp2_with (go_at_call 41; refine (c_isClass _ _).mono ?_; rintro e w' ⟨rfl, rfl⟩; rw [hc])
    go_ret2
    exact ⟨r_ib E1.out.symm rfl, rfl⟩
  | true =>
    obtain ⟨e1, _, _⟩ := Pl.cl_yes hc
    have E1 := Lib.hid e1; clear e1
    obtain ⟨b1, b2⟩ := Pl.szOf_bd hc
    obtain ⟨b3, b4⟩ := Pl.isCl_iff.1 hc
    have q : w.cell? ⟨0, c.toNat, none⟩ = some (.int .i64 (Pl.szOf c)) := hT c.toNat (by omega)
    generalize hs : Pl.szOf c = s at *
    clear hs
    go_enter Tryd.func26, Tryd.ntmps26
    go_wp2_with (go_at_call 41; refine (c_isClass _ _).mono ?_; rintro e w' ⟨rfl, rfl⟩; rw [hc])
    go_loop [4] (fun i => ∃ k : Nat, 1 ≤ k ∧ k ≤ 8 ∧ i = .int .i64 k ∧ Pl.noFit s k) (fun i => 8 - (intOf i).toNat)
    case atStart => exact ⟨1, by omega, by omega, rfl, Pl.noFit_one s⟩
    case round =>
      obtain ⟨k, hk1, hk, rfl, hn⟩ := hrel
      by_cases hlt : k < 8
      · cases hf : Pl.fits ((k : Int) * 64) s with
        | true =>
          have e := Lib.hid (Pl.pages_found hk1 (by omega) hf hn)
          go_wp2_with (go_at_call 42; refine (c_fillsWell _ _ _ b1 b2 (by omega) (by omega)).mono ?_; rintro e w' ⟨rfl, rfl⟩; rw [hf])
          go_ret2
          exact ⟨r_ib (by rw [E1.out, e.out]) rfl, rfl⟩
        | false =>
          go_wp2_with (go_at_call 42; refine (c_fillsWell _ _ _ b1 b2 (by omega) (by omega)).mono ?_; rintro e w' ⟨rfl, rfl⟩; rw [hf])
          go_round
          case rel => exact ⟨k + 1, by omega, by omega, by go_num, Pl.noFit_succ hn hf⟩
          case measure => simp [intOf]; omega
      · obtain rfl : k = 8 := by omega
        have e := Lib.hid (Pl.pages_none hn)
        go_wp2
        go_ret2
        exact ⟨r_ib (by rw [E1.out, e.out]) rfl, rfl⟩
set_option maxHeartbeats 400000 in
theorem c_implSlotsIn (c : Int) (w : World) (hT : TabW w) : Calls Tryd.prog 24 #[.int .i64 c] w fun e w' => e = .returned (.tuple #[.int .i64 (Pl.slOf c), .bool (Pl.isCl c)]) ∧ w = w' := by
  cases hc : Pl.isCl c with
  | false =>
    obtain ⟨_, e1, _⟩ := Pl.cl_no hc
    have E1 := Lib.hid e1; clear e1
    go_enter Tryd.func24, Tryd.ntmps24
    go_wp2_with (go_at_call 26; refine (c_implPagesFor _ _ hT).mono ?_; rintro e w' ⟨rfl, rfl⟩; rw [hc])
    go_ret2
    exact ⟨r_ib E1.out.symm rfl, rfl⟩
  | true =>
    obtain ⟨e0, e1, _⟩ := Pl.cl_yes hc
    have E1 := Lib.hid e1; have E0 := Lib.hid e0; clear e1 e0
    obtain ⟨b1, b2⟩ := Pl.szOf_bd hc
    obtain ⟨b3, b4⟩ := Pl.isCl_iff.1 hc
    have q : w.cell? ⟨0, c.toNat, none⟩ = some (.int .i64 (Pl.szOf c)) := hT c.toNat (by omega)
    generalize Pl.szOf c = s at *
    obtain ⟨b5, b6⟩ := Pl.pages_bd s
    go_enter Tryd.func24, Tryd.ntmps24
    go_wp2_with (go_at_call 26; refine (c_implPagesFor _ _ hT).mono ?_; rintro e w' ⟨rfl, rfl⟩; rw [hc, E0.out])
    go_ret2
    exact ⟨r_ib E1.out.symm rfl, rfl⟩
set_option maxHeartbeats 400000 in
theorem c_implTailOf (c : Int) (w : World) (hT : TabW w) : Calls Tryd.prog 28 #[.int .i64 c] w fun e w' => e = .returned (.tuple #[.int .i64 (Pl.tlOf c), .bool (Pl.isCl c)]) ∧ w = w' := by
  cases hc : Pl.isCl c with
  | false =>
    obtain ⟨_, _, e1⟩ := Pl.cl_no hc
    have E1 := Lib.hid e1; clear e1
    go_enter Tryd.func28, Tryd.ntmps28
    go_wp2_with (go_at_call 26; refine (c_implPagesFor _ _ hT).mono ?_; rintro e w' ⟨rfl, rfl⟩; rw [hc])
    go_ret2
    exact ⟨r_ib E1.out.symm rfl, rfl⟩
  | true =>
    obtain ⟨e0, _, e1⟩ := Pl.cl_yes hc
    have E1 := Lib.hid e1; have E0 := Lib.hid e0; clear e1 e0
    obtain ⟨b1, b2⟩ := Pl.szOf_bd hc
    obtain ⟨b3, b4⟩ := Pl.isCl_iff.1 hc
    have q : w.cell? ⟨0, c.toNat, none⟩ = some (.int .i64 (Pl.szOf c)) := hT c.toNat (by omega)
    generalize Pl.szOf c = s at *
    obtain ⟨b5, b6⟩ := Pl.pages_bd s
    go_enter Tryd.func28, Tryd.ntmps28
    go_wp2_with (go_at_call 26; refine (c_implPagesFor _ _ hT).mono ?_; rintro e w' ⟨rfl, rfl⟩; rw [hc, E0.out])
    go_ret2
    exact ⟨r_ib E1.out.symm rfl, rfl⟩
end Go.Proofs.YtlaembbgjgpmbaaDoor
