/- Contracts of chapter 2: masks, counts, bitmaps out of words. -/
import Derived.Test.YtcelebblcjhpaaaDoorBw1
namespace Go.Proofs.YtcelebblcjhpaaaDoor
open Go.RowKit Pb

set_option maxHeartbeats 800000 in
theorem c_firstBits (n : Int) (w : World) (h0 : -1000 ≤ n) (h1 : n ≤ 1000) : Calls Tryd.prog 87 #[.int .i64 n] w fun e w' => e = .returned (a6 fun k => lowW (n - k * 16)) ∧ Below w.heap.size w w' := by
  go_enter Tryd.func87, Tryd.ntmps87
  go_wp2
  go_loopw [5] (fun i wr => ∃ k : Nat, k ≤ 6 ∧ i = .int .i64 k ∧ Blk wr w.heap.size (fun _ => 0) ∧ Blk wr (w.heap.size + 1) (part (fun k => lowW (n - k * 16)) (fun _ => 0) k) ∧ Below w.heap.size w wr) (fun i _ => 6 - (intOf i).toNat)
  case atStart => exact ⟨0, by omega, rfl, (Row.new w _ (c6 fun _ => 0)).alloc _, by rw [part_zero]; exact Row.new1 w _ _ (c6 fun _ => 0), ((Below.refl _ _).alloc (Nat.le_refl _) _).alloc (by simp) _⟩
  case round =>
    obtain ⟨k, hk, rfl, hb0, hb1, hb⟩ := hrel
    by_cases hlt : k < 6
    · have f1 := Row.frozen hb1 k
      have q1 := hb1.at hlt
      have i1 : (k : Int) < 6 := by omega
      have HB0 := Lib.hid (Row.other hb0 ⟨w.heap.size + 1, k, none⟩ (by simp) (.int .u16 (lowW (n - k * 16))))
      have HB1 := Lib.hid (hb1.set hlt (lowW (n - k * 16)))
      have HB := Lib.hid (hb.setCell (p := ⟨w.heap.size + 1, k, none⟩) (by simp) (.int .u16 (lowW (n - k * 16))))
      clear hb0 hb1 hb
      go_wp2_with (go_at_call 109; refine (c_lowBits _ _).mono ?_; rintro e w' ⟨rfl, rfl⟩)
      go_roundw
      case rel => exact ⟨k + 1, by omega, by go_num, HB0.out, by rw [← part_step]; exact HB1.out, HB.out⟩
      case measure => simp [intOf]; omega
    · obtain rfl : k = 6 := by omega
      have e6 : c6 (part (fun k => lowW (n - k * 16)) (fun _ => 0) 6) = c6 (fun k => lowW (n - k * 16)) := c6_congr (part_six _ _)
      rw [Blk, e6] at hb1
      clear e6
      go_wp2_with (first
        | (refine wl_load6 rfl _ rfl (w.heap.size + 1) _ hb1 rfl ?_)
        | (refine wl_store6 rfl _ _ rfl w.heap.size (fun k => lowW (n - k * 16)) _ hb0 rfl rfl ?_))
      exact bodyPost_ret (res_row Tryd.results87 (Row.put hb0 (c6 fun k => lowW (n - k * 16))) rfl Tryd.underlying69 rfl info_bw) rfl ⟨rfl, below_setRow hb (by omega) _⟩

set_option maxHeartbeats 800000 in
theorem c_runBits (a b : Int) (w : World) (h0 : -1000 ≤ a) (h1 : a ≤ 1000) (h2 : -1000 ≤ b) (h3 : b ≤ 1000) : Calls Tryd.prog 89 #[.int .i64 a, .int .i64 b] w fun e w' => e = .returned (a6 (runW a b)) ∧ Below w.heap.size w w' := by
  go_enter Tryd.func89, Tryd.ntmps89
  go_wp2_with fail
  have r0 := Row.new w 69 (c6 fun _ => 0)
  refine (c_firstBits b _ h2 h3).mono ?_
  rintro e w1 ⟨rfl, hb1⟩
  have r1 := r0.below hb1
  go_wp2_with fail
  refine (c_firstBits a _ h0 h1).mono ?_
  rintro e w2 ⟨rfl, hb2⟩
  have r2 := r1.below hb2
  go_wp2_with fail
  refine (c_without _ _ _).mono ?_
  rintro e w3 ⟨rfl, hb3⟩
  have r3 := r2.below hb3
  have B3 : Below w.heap.size w w3 := (((Below.refl _ _).alloc (Nat.le_refl _) _).trans (hb1.mono (by simp))).trans ((hb2.trans (hb3.mono hb2.size)).mono (by have := hb1.size; simp at this; omega))
  clear r0 r1 r2 hb1 hb2 hb3
  go_wp2_with (refine wl_store6 rfl _ _ rfl w.heap.size (runW a b) (fun _ => 0) r3 rfl rfl ?_)
  exact bodyPost_ret (res_row Tryd.results89 (Row.put r3 (c6 (runW a b))) rfl Tryd.underlying69 rfl info_bw) rfl ⟨rfl, below_setRow B3 (by omega) _⟩
end Go.Proofs.YtcelebblcjhpaaaDoor
