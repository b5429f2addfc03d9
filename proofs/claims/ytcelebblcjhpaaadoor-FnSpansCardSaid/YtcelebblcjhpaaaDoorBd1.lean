/- Contracts of chapter 2: the lowest bit of a word, the first bit of six words. -/
import Derived.Test.YtcelebblcjhpaaaDoorPd
import Derived.Test.YtcelebblcjhpaaaDoorBw4
namespace Go.Proofs.YtcelebblcjhpaaaDoor
open Go.RowKit Pb

/-- The library's table of lowest bits. -/
def TabB (w : World) : Prop := ∀ j, j < 32 → w.cell? ⟨1, j, none⟩ = some (.int .u8 (Lib.deBruijn32tab.getD j 0))
theorem TabB.below {w w' : World} (h : TabB w) (hb : Below w.heap.size w w') : TabB w' := fun j hj => (hb.cell (p := ⟨1, j, none⟩) (block_lt_of_cell (h j hj))).trans (h j hj)
theorem TabB.below' {B : Nat} {w w' : World} (h : TabB w) (hb : Below B w w') (hB : 1 < B) : TabB w' := fun j hj => (hb.cell (p := ⟨1, j, none⟩) hB).trans (h j hj)
theorem TabB.pos {w : World} (h : TabB w) : 1 < w.heap.size := block_lt_of_cell (h 0 (by omega))
theorem tz_key (x a : Nat) (hx : x < 65536) (hx0 : x ≠ 0) (hlow : x &&& (65536 - x) = a) : bits .and .u16 (x : Int) (IntKind.u16.wrap (-(x : Int))) % 4294967296 * 125613361 % 4294967296 / 134217728 = ((a * 125613361 % 4294967296 / 134217728 : Nat) : Int) := by
  have e1 : IntKind.u16.wrap (-(x : Int)) = ((65536 - x : Nat) : Int) := by simp [IntKind.wrap, IntKind.signed, IntKind.bits]; omega
  rw [e1, and16 x _ hx (by omega), hlow]
  omega
set_option maxHeartbeats 800000 in
theorem tz16_core (n k idx : Nat) (w : World) (hn : n < 65536) (hx0 : ((n : Int) == 0) = false) (key : bits .and .u16 (n : Int) (IntKind.u16.wrap (-(n : Int))) % 4294967296 * 125613361 % 4294967296 / 134217728 = (idx : Int)) (hi : idx < 32) (hk : k < 16)
    (hcell : w.cell? ⟨1, idx, none⟩ = some (.int .u8 k)) : Calls Tryd.prog 88 #[.int .u16 n] w fun e w' => e = .returned (.int .i64 k) ∧ w = w' := by
  have hw1 : (0 : Int) ≤ n := by omega
  have hw2 : (n : Int) ≤ 65535 := by omega
  go_enter Tryd.func88, Tryd.ntmps88
  go_wp2_with (simp only [key])
  go_ret
  exact ⟨rfl, rfl⟩
theorem c_TrailingZeros16 (x : Int) (w : World) (hw : W16 x) (h0 : x ≠ 0) (hT : TabB w) : Calls Tryd.prog 88 #[.int .u16 x] w fun e w' => e = .returned (.int .i64 (tz x)) ∧ w = w' := by
  obtain ⟨n, rfl, hn⟩ := hw.nat
  have hn0 : n ≠ 0 := by omega
  obtain ⟨hlow, hk⟩ := Lib.lowest_bit 16 n hn0 (by omega)
  obtain ⟨hi, htab⟩ := Lib.deBruijn32_at (Lib.ctz 16 n) (by omega)
  have hcell := hT _ hi
  rw [htab] at hcell
  have key := tz_key n _ hn hn0 hlow
  have e : tz (n : Int) = Lib.ctz 16 n := by simp [tz]
  rw [e]
  exact tz16_core n _ _ w hn (by rw [beq_eq_false_iff_ne]; omega) key hi hk hcell
/-- What first answers. -/
def FirstEnd (f : Nat → Int) (w : World) (e : Ending) (w' : World) : Prop := e = .returned (.tuple #[.int .i64 (optN (findP (bitF f) 0 96)), .bool (findP (bitF f) 0 96).isSome]) ∧ Below w.heap.size w w'
set_option maxHeartbeats 800000 in
theorem c_first (f : Nat → Int) (w : World) (hf : ∀ k, k < 6 → W16 (f k)) (hT : TabB w) : Calls Tryd.prog 49 #[a6 f] w (FirstEnd f w) := by
  have HF := Lib.hid hf; clear hf
  have HT := Lib.hid (hT.below ((Below.refl w.heap.size w).alloc (Nat.le_refl _) (.cells (c6 f) 69))); clear hT
  go_enter Tryd.func49, Tryd.ntmps49
  go_wp2_with (refine wl_load6 rfl _ rfl w.heap.size f (Row.new w _ _) rfl ?_)
  go_loop [7] (fun i => ∃ k : Nat, k ≤ 6 ∧ i = .int .i64 k ∧ Hid (findP (bitF f) 0 96 = findP (bitF f) (16 * k) (96 - 16 * k))) (fun i => 6 - (intOf i).toNat)
  case atStart => exact ⟨0, by omega, rfl, rfl⟩
  case round =>
    obtain ⟨k, hk, rfl, hinv⟩ := hrel
    by_cases hlt : k < 6
    · have hix := fun w => c6_index w f k hlt
      have hw := HF.out k hlt
      by_cases h0 : f k = 0
      · have HS : Hid (findP (bitF f) 0 96 = findP (bitF f) (16 * (k + 1)) (96 - 16 * (k + 1))) := by
          unfold Hid
          rw [hinv.out, findP_skip 16 (16 * k) (96 - 16 * k) (fun j hj => by
            unfold bitF
            rw [show (16 * k + j) / 16 = k by omega, h0]
            exact tb_zero _) (by omega)]
          rw [show 16 * k + 16 = 16 * (k + 1) by omega, show 96 - 16 * k - 16 = 96 - 16 * (k + 1) by omega]
        have hb0 : ((f k) != 0) = false := by rw [h0]; rfl
        clear h0 hinv
        generalize f k = x at *
        go_wp2
        go_round
        case rel => exact ⟨k + 1, by omega, by go_num, HS.out⟩
        case measure => simp [intOf]; omega
      · obtain ⟨l1, l2, l3, _⟩ := low_spec hw h0
        have HS : Hid (findP (bitF f) 0 96 = some (16 * k + tz (f k))) := by
          unfold Hid
          rw [hinv.out, findP_skip (tz (f k)) (16 * k) (96 - 16 * k) (fun j hj => by
            unfold bitF
            rw [show (16 * k + j) / 16 = k by omega, show (16 * k + j) % 16 = j by omega]
            exact l3 j hj) (by omega)]
          refine findP_hit ?_ (by omega)
          unfold bitF
          rw [show (16 * k + tz (f k)) / 16 = k by omega, show (16 * k + tz (f k)) % 16 = tz (f k) by omega]
          exact l2
        have hb1 : ((f k) != 0) = true := by rw [bne_iff_ne]; exact h0
        have HW := Lib.hid hw; have H0 := Lib.hid h0
        clear h0 hinv l2 l3 hw
        generalize f k = x at *
        generalize htz : tz x = t at *
        have HTZ := Lib.hid htz; clear htz
        go_wp2_with (go_at_call 88; refine (c_TrailingZeros16 _ _ HW.out H0.out HT.out).mono ?_; rintro e w' ⟨rfl, rfl⟩; rw [HTZ.out])
        go_ret2
        exact ⟨by rw [HS.out]; exact r_ib (by simp [optN]; omega) rfl, (Below.refl _ _).alloc (Nat.le_refl _) _⟩
    · obtain rfl : k = 6 := by omega
      have HS : Hid (findP (bitF f) 0 96 = none) := hinv.out
      go_wp2
      go_ret2
      exact ⟨by rw [HS.out]; rfl, (Below.refl _ _).alloc (Nat.le_refl _) _⟩
end Go.Proofs.YtcelebblcjhpaaaDoor
