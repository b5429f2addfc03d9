/- Contracts of chapter 2: the reference, as far as it reads. -/
import Derived.Test.YtcelebblcjhpaaaDoorBw3
namespace Go.Proofs.YtcelebblcjhpaaaDoor
open Go.RowKit Pb

theorem quiet_same' {P : Program} {f : FuncId} {args : Array Value} {w : World} {n : Nat} {v : Value}
    (h : Calls P f args (w.drewN n) fun e w' => e = .returned v ∧ w.drewN n = w') : Calls P f args (w.drewN n) fun e w'' => e = .returned v ∧ ∃ m, w'' = w.drewN m :=
  h.mono fun _ _ ⟨he, hm⟩ => ⟨he, n, hm.symm⟩
theorem bstep' {B : Nat} {w w1 w2 : World} (h : Below B w w1) (k : Below w1.heap.size w1 w2) (hB : B ≤ w1.heap.size) : Below B w w2 := h.trans (k.mono hB)

theorem c_in_yes (n lo hi : Int) (w : World) (h : lo ≤ n ∧ n ≤ hi) : Calls Tryd.prog 60 #[.int .i64 n, .int .i64 lo, .int .i64 hi] w fun e w' => e = .returned (.bool true) ∧ w = w' := by
  obtain ⟨h1, h2⟩ := h
  go_enter Tryd.func60, Tryd.ntmps60
  go_wp2
  go_ret
  exact ⟨rfl, rfl⟩
theorem c_in_no (n lo hi : Int) (w : World) (h : ¬ (lo ≤ n ∧ n ≤ hi)) : Calls Tryd.prog 60 #[.int .i64 n, .int .i64 lo, .int .i64 hi] w fun e w' => e = .returned (.bool false) ∧ w = w' := by
  by_cases h1 : lo ≤ n
  · have h2 : ¬ n ≤ hi := fun h2 => h ⟨h1, h2⟩
    clear h
    go_enter Tryd.func60, Tryd.ntmps60
    go_wp2
    go_ret
    exact ⟨rfl, rfl⟩
  · clear h
    go_enter Tryd.func60, Tryd.ntmps60
    go_wp2
    go_ret
    exact ⟨rfl, rfl⟩
theorem c_l2Words (n : Int) (w : World) (h0 : 0 ≤ n) (h1 : n ≤ 1000) : Calls Tryd.prog 94 #[.int .i64 n] w fun e w' => e = .returned (.int .i64 ((n + 15) / 16)) ∧ w = w' := by
  go_enter Tryd.func94, Tryd.ntmps94
  go_wp2
  go_ret
  exact ⟨r_i (by congr 1; omega), rfl⟩

set_option maxHeartbeats 800000 in
theorem c_l1All (v : Value) (zs : List Int) (lo hi : Int) (w : World) (hv : IntsAt w v zs) (hm : zs.length ≤ 1048576) (bb : Bool) (hb : bb = true ↔ ∀ k, k < zs.length → lo ≤ zs.getD k 0 ∧ zs.getD k 0 ≤ hi) :
    Calls Tryd.prog 95 #[v, .int .i64 lo, .int .i64 hi] w fun e w' => e = .returned (.bool bb) ∧ w = w' := by
  obtain ⟨a, ca, rfl, hv⟩ := hv
  have HV := Lib.hid hv; clear hv
  have HB := Lib.hid hb; clear hb
  generalize hn : zs.length = n at *
  clear hn
  go_enter Tryd.func95, Tryd.ntmps95
  go_wp2
  go_loop [11] (fun i => ∃ k : Nat, k ≤ n ∧ i = .int .i64 k ∧ Hid (∀ j, j < k → lo ≤ zs.getD j 0 ∧ zs.getD j 0 ≤ hi)) (fun i => n - (intOf i).toNat)
  case atStart => exact ⟨0, by omega, rfl, fun j hj => by omega⟩
  case round =>
    obtain ⟨k, hk, rfl, hw⟩ := hrel
    by_cases hlt : k < n
    · obtain ⟨b, off, rfl, hc⟩ := HV.out (by omega)
      have q := hc k hlt
      clear hc
      have i1 : (k : Int) < (n : Int) := by omega
      by_cases hx : lo ≤ zs.getD k 0 ∧ zs.getD k 0 ≤ hi
      · have HW : Hid (∀ j, j < k + 1 → lo ≤ zs.getD j 0 ∧ zs.getD j 0 ≤ hi) := fun j hj => by
          by_cases e : j = k
          · rw [e]; exact hx
          · exact hw.out j (by omega)
        have HX := Lib.hid hx
        clear hx hw HV
        generalize zs.getD k 0 = x at *
        go_wp2_with (go_at_call 60; refine (c_in_yes _ _ _ _ HX.out).mono ?_; rintro e w' ⟨rfl, rfl⟩)
        go_round
        case rel => exact ⟨k + 1, by omega, by go_num, HW.out⟩
        case measure => simp [intOf]; omega
      · have hF : bb = false := by
          cases bb
          · rfl
          · exact absurd (HB.out.1 rfl k hlt) hx
        have HF := Lib.hid hF
        have HX := Lib.hid hx
        clear hx hw HV hF
        generalize zs.getD k 0 = x at *
        go_wp2_with (go_at_call 60; refine (c_in_no _ _ _ _ HX.out).mono ?_; rintro e w' ⟨rfl, rfl⟩)
        go_ret
        exact ⟨r_b HF.out.symm, rfl⟩
    · obtain rfl : k = n := by omega
      have HF : Hid (bb = true) := HB.out.2 hw.out
      go_wp2
      go_ret
      exact ⟨r_b HF.out.symm, rfl⟩

set_option maxHeartbeats 800000 in
theorem c_l2Is (long : Int) (v : Value) (zs : List Int) (p : Nat) (w : World) (hv : IntsAt w v zs) (hm : zs.length ≤ 1048576) (hp : p < 16 * zs.length) (hw : W16 (zs.getD (p / 16) 0)) :
    Calls Tryd.prog 69 #[bm long v, .int .i64 p] w fun e w' => e = .returned (.bool (bitL zs p)) ∧ Below w.heap.size w w' := by
  obtain ⟨a, ca, rfl, hv⟩ := hv
  obtain ⟨b, off, rfl, hc⟩ := hv (by omega)
  have q := hc (p / 16) (by omega)
  have hb := block_lt_of_cell q
  clear hv hc
  obtain ⟨j, hj⟩ : ∃ j : Nat, j = p / 16 := ⟨_, rfl⟩
  obtain ⟨r, hr⟩ : ∃ r : Nat, r = p % 16 := ⟨_, rfl⟩
  have e1 : (p : Int) / 16 = (j : Int) := by omega
  have e2 : (p : Int) % 16 = (r : Int) := by omega
  have hr16 : r < 16 := by omega
  have hj1 : (j : Int) < (zs.length : Int) := by omega
  have hp0 : (0 : Int) ≤ (p : Int) := by omega
  have hp1 : (p : Int) ≤ 16777216 := by omega
  rw [← hj] at q hw
  have E : Hid (bitL zs p = tb (zs.getD j 0) r) := by unfold Hid bitL bitF; rw [hj, hr]
  have EB := Lib.hid (is_bit hw r)
  rw [E.out]
  clear hj hr E
  generalize zs.length = n at *
  generalize zs.getD j 0 = z at *
  have hz0 := hw.1
  have hz1 := hw.2
  clear hw hm
  go_enter Tryd.func69, Tryd.ntmps69
  go_wp2
  go_ret
  exact ⟨r_b EB.out, (Below.refl _ _).alloc (Nat.le_refl _) _⟩
end Go.Proofs.YtcelebblcjhpaaaDoor
