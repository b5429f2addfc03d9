/- TakeRun, the reference's. -/
import Derived.Test.YtdiejmebodpjeaaMw7
namespace Go.Proofs.Ytdiejmebodpjeaa
open Go.RowKit Go.Maps Go.Sort Pr

set_option maxRecDepth 100000 in
set_option maxHeartbeats 3200000 in
theorem s_TakeRun_no (v : Value) (rs : List (Int × Int)) (long : Int) (w : World) (hA : RunsAt w v rs) (hI : Bnd rs) (hm : rs.length ≤ 1048576) (ht : takeR rs long = none) :
    Calls Try.prog 14 #[v, .int .i64 long] w fun e w' => e = .returned (.tuple #[.slice none 0 0, .int .i64 0, .bool false]) ∧ Below w.heap.size w w' := by
  have hc := s_GoodRuns v rs w hA hI (by omega)
  cases hg : good 0 rs with
  | false =>
    rw [hg] at hc
    clear hA hI ht hg
    go_enter Try.func14, Try.ntmps14
    go_wp2_with (go_at_call 17; refine hc.mono ?_; rintro e w6 ⟨rfl, hbk⟩)
    go_ret3
    exact ⟨rfl, hbk⟩
  | true =>
    rw [hg] at hc
    by_cases h1 : 1 ≤ long ∧ long ≤ 32
    · have hbo : bestOf long rs = none := by
        unfold takeR at ht
        rw [if_pos ⟨hg, h1⟩] at ht
        exact Option.map_eq_none_iff.1 ht
      have HBO := Lib.hid hbo
      have hlen := good_len16 hg
      clear hI ht hg hbo
      obtain ⟨a, ca, rfl, hA⟩ := hA
      generalize hn : rs.length = n at *
      have HN := Lib.hid hn; clear hn
      have HA := Lib.hid hA; clear hA
      go_enter Try.func14, Try.ntmps14
      go_wp2_with (first
        | (go_at_call 17; refine hc.mono ?_; rintro e w6 ⟨rfl, hbk⟩; have HB1 := Lib.hid hbk; clear hbk)
        | (go_at_call 48; refine (c_in_yes _ _ _ _ h1).mono ?_; rintro e w7 ⟨rfl, rfl⟩))
      go_loopw [7, 23] (fun bs i wr => ∃ k : Nat, k ≤ n ∧ i = .int .i64 k ∧ ((bs = .int .i64 (-1) ∧ Hid (bestOf long (rs.take k) = none)) ∨ ∃ j : Nat, j < k ∧ bs = .int .i64 j ∧ Hid (bestOf long (rs.take k) = some (rs.getD j (0, 0)))) ∧ Below w.heap.size w wr) (fun _ i _ => n - (intOf i).toNat)
      case atStart => exact ⟨0, Nat.zero_le _, rfl, .inl ⟨rfl, rfl⟩, HB1.out⟩
      case round =>
        obtain ⟨k, hk, rfl, hbs, hbr⟩ := hrel
        by_cases hlt : k < n
        · obtain ⟨b, off, rfl, hcc⟩ := HA.out (by omega)
          obtain ⟨p0, p1⟩ := hcc k hlt
          have q0 := cellBelow' hbr p0
          have q1 := cellBelow' hbr p1
          clear p0 p1
          have hkl : k < rs.length := by rw [HN.out]; exact hlt
          have hst := bestOf_take_succ long hkl
          generalize hz : rs.getD k (0, 0) = z at q0 q1 hst
          obtain ⟨z1, z2⟩ := z
          simp only [] at q0 q1
          have HZ := Lib.hid hz; clear hz hkl
          have i1 : (k : Int) < (n : Int) := by omega
          have HB2 := Lib.hid (bst hbr (below1 wr (.cells (cr (z1, z2)) 33)) hbr.size)
          rcases hbs with ⟨rfl, ho⟩ | ⟨j, hj, rfl, ho⟩
          · clear hcc hbr
            rw [ho.out] at hst
            by_cases c : long ≤ z2
            · have HST : Hid (bestOf long (rs.take (k + 1)) = some (z1, z2)) := by unfold Hid; rw [hst]; simp [fit]; omega
              clear hst
              go_wp2
              go_quiet (fail)
              go_wp2
              go_roundw
              case rel => exact ⟨k + 1, by omega, by go_num, .inr ⟨k, by omega, rfl, by rw [HZ.out]; exact HST.out⟩, below_drewN HB2.out _⟩
              case measure => simp [intOf]; omega
            · have cd : decide (long ≤ z2) = false := decide_eq_false c
              have HST : Hid (bestOf long (rs.take (k + 1)) = none) := by unfold Hid; rw [hst]; simp [fit]; omega
              clear hst
              go_wp2
              go_quiet (fail)
              go_wp2
              go_roundw
              case rel => exact ⟨k + 1, by omega, by go_num, .inl ⟨rfl, HST.out⟩, below_drewN HB2.out _⟩
              case measure => simp [intOf]; omega
          · obtain ⟨_, p1⟩ := hcc j (by omega)
            have r1 := cellBelow' hbr p1
            clear hcc p1 hbr
            rw [ho.out] at hst
            have HO := Lib.hid ho.out
            clear ho
            generalize hy : rs.getD j (0, 0) = y at r1 hst
            obtain ⟨y1, y2⟩ := y
            simp only [] at r1
            have HY := Lib.hid hy; clear hy
            have r3 : (wr.alloc (.cells #[.int .i64 z1, .int .i64 z2] 33)).cell? ⟨b, off + j * 2 + 1, none⟩ = some (.int .i64 y2) := cellBelow' (below1 wr _) r1
            have j0 : ¬ (j : Int) < 0 := by omega
            have i5 : (j : Int) < n := by omega
            by_cases c : long ≤ z2
            · by_cases c2 : z2 < y2
              · have HST : Hid (bestOf long (rs.take (k + 1)) = some (z1, z2)) := by unfold Hid; rw [hst]; simp [fit, c2]; omega
                clear hst
                go_wp2
                go_quiet (fail)
                go_wp2
                go_roundw
                case rel => exact ⟨k + 1, by omega, by go_num, .inr ⟨k, by omega, rfl, by rw [HZ.out]; exact HST.out⟩, below_drewN HB2.out _⟩
                case measure => simp [intOf]; omega
              · have HST : Hid (bestOf long (rs.take (k + 1)) = some (y1, y2)) := by unfold Hid; rw [hst]; simp [fit, c2]
                clear hst
                go_wp2
                go_quiet (fail)
                go_wp2
                go_roundw
                case rel => exact ⟨k + 1, by omega, by go_num, .inr ⟨j, by omega, rfl, by rw [HY.out]; exact HST.out⟩, below_drewN HB2.out _⟩
                case measure => simp [intOf]; omega
            · have cd : decide (long ≤ z2) = false := decide_eq_false c
              have HST : Hid (bestOf long (rs.take (k + 1)) = some (y1, y2)) := by unfold Hid; rw [hst]; simp [fit]; omega
              clear hst
              go_wp2
              go_quiet (fail)
              go_wp2
              go_roundw
              case rel => exact ⟨k + 1, by omega, by go_num, .inr ⟨j, by omega, rfl, by rw [HY.out]; exact HST.out⟩, below_drewN HB2.out _⟩
              case measure => simp [intOf]; omega
        · have HE : Hid (rs.take k = rs) := by unfold Hid; exact List.take_of_length_le (by rw [HN.out]; omega)
          rcases hbs with ⟨rfl, ho⟩ | ⟨j, hj, rfl, ho⟩
          · go_wp2
            go_ret3
            exact ⟨rfl, hbr⟩
          · have h := ho.out
            rw [HE.out, HBO.out] at h
            cases h
    · clear hA hI ht hg
      go_enter Try.func14, Try.ntmps14
      go_wp2_with (first
        | (go_at_call 17; refine hc.mono ?_; rintro e w6 ⟨rfl, hbk⟩)
        | (go_at_call 48; refine (c_in_no _ _ _ _ h1).mono ?_; rintro e w7 ⟨rfl, rfl⟩))
      go_ret3
      exact ⟨rfl, hbk⟩

end Go.Proofs.Ytdiejmebodpjeaa
