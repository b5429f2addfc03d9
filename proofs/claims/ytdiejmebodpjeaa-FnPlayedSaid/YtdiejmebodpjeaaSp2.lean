/- TakeRun, the reference's, where it takes. -/
import Derived.Test.YtdiejmebodpjeaaSp1
namespace Go.Proofs.Ytdiejmebodpjeaa
open Go.RowKit Go.Maps Go.Sort Pr

theorem sort_getD {rs : List R} (hs : SortK rs) {i j : Nat} (hi : i < rs.length) (hj : j < rs.length) (hne : i ≠ j) : (rs.getD i (0, 0)).1 ≠ (rs.getD j (0, 0)).1 := by
  have h := List.pairwise_iff_getElem.1 hs
  have ei : rs.getD i (0, 0) = rs[i] := by simp [List.getD, List.getElem?_eq_getElem hi]
  have ej : rs.getD j (0, 0) = rs[j] := by simp [List.getD, List.getElem?_eq_getElem hj]
  rw [ei, ej]
  by_cases c : i < j
  · have := h i j hi hj c; omega
  · have := h j i hj hi (by omega); omega
theorem takeL_len {long : Int} {b : R} {rs : List R} : (takeL rs long b).length ≤ rs.length := by
  induction rs with
  | nil => simp [takeL]
  | cons r t ih =>
    show (cutR b long r ++ takeL t long b).length ≤ _
    have : (cutR b long r).length ≤ 1 := by unfold cutR; split <;> (try split) <;> simp
    simp only [List.length_append, List.length_cons]
    omega

set_option maxRecDepth 100000 in
set_option maxHeartbeats 6400000 in
theorem s_TakeRun_yes (v : Value) (rs : List (Int × Int)) (long : Int) (ts : List (Int × Int)) (p : Int) (w : World) (hA : RunsAt w v rs) (ht : takeR rs long = some (ts, p)) :
    Calls Try.prog 14 #[v, .int .i64 long] w fun e w' => ∃ v', e = .returned (.tuple #[v', .int .i64 p, .bool true]) ∧ OwnR w' w.heap.size v' ts ∧ Below w.heap.size w w' := by
  obtain ⟨hg, l1, l2, ⟨_, b2⟩, hbo, rfl, rfl⟩ := takeR_some ht
  have h1 : 1 ≤ long ∧ long ≤ 32 := ⟨l1, l2⟩
  have hlen := good_len16 hg
  have hc := s_GoodRuns v rs w hA (Bnd.good hg) (by omega)
  rw [hg] at hc
  have HBO := Lib.hid hbo
  have HS := Lib.hid (good_sort hg)
  have HOK : Hid (∀ r ∈ rs, okR r = true) := fun r hr => (good_mem hg r hr).1
  clear ht hg hbo
  obtain ⟨a, ca, rfl, hA⟩ := hA
  generalize hn : rs.length = n at *
  have HN := Lib.hid hn; clear hn
  have HA := Lib.hid hA; clear hA
  go_enter Try.func14, Try.ntmps14
  go_wp2_with (first
    | (go_at_call 17; refine hc.mono ?_; rintro e w6 ⟨rfl, hbk⟩; have HB1 := Lib.hid hbk; clear hbk)
    | (go_at_call 48; refine (c_in_yes _ _ _ _ h1).mono ?_; rintro e w7 ⟨rfl, rfl⟩))
  go_loopw [7, 23] (fun bs i wr => ∃ k : Nat, k ≤ n ∧ i = .int .i64 k ∧ ((bs = .int .i64 (-1) ∧ Hid (bestOf long (rs.take k) = none)) ∨ ∃ j : Nat, j < k ∧ bs = .int .i64 j ∧ Hid (bestOf long (rs.take k) = some (rs.getD j (0, 0)))) ∧ Below w.heap.size w wr) (fun _ i _ => n - (intOf i).toNat)
  case atStart => exact ⟨0, Nat.zero_le _, rfl, .inl ⟨rfl, rfl⟩, HB1.out⟩
  case round =>
    obtain ⟨k, hk, rfl, hbs, hbr⟩ := hrel
    by_cases hlt : k < n
    · obtain ⟨b, off, rfl, hcc⟩ := HA.out (by omega)
      obtain ⟨p0, p1⟩ := hcc k hlt
      have q0 := cellBelow' hbr p0
      have q1 := cellBelow' hbr p1
      clear p0 p1
      have hkl : k < rs.length := by rw [HN.out]; exact hlt
      have hst := bestOf_take_succ long hkl
      generalize hz : rs.getD k (0, 0) = z at q0 q1 hst
      obtain ⟨z1, z2⟩ := z
      simp only [] at q0 q1
      have HZ := Lib.hid hz; clear hz hkl
      have i1 : (k : Int) < (n : Int) := by omega
      have HB2 := Lib.hid (bst hbr (below1 wr (.cells (cr (z1, z2)) 33)) hbr.size)
      rcases hbs with ⟨rfl, ho⟩ | ⟨j, hj, rfl, ho⟩
      · clear hcc hbr
        rw [ho.out] at hst
        by_cases c : long ≤ z2
        · have HST : Hid (bestOf long (rs.take (k + 1)) = some (z1, z2)) := by unfold Hid; rw [hst]; simp [fit]; omega
          clear hst
          go_wp2
          go_quiet (fail)
          go_wp2
          go_roundw
          case rel => exact ⟨k + 1, by omega, by go_num, .inr ⟨k, by omega, rfl, by rw [HZ.out]; exact HST.out⟩, below_drewN HB2.out _⟩
          case measure => simp [intOf]; omega
        · have cd : decide (long ≤ z2) = false := decide_eq_false c
          have HST : Hid (bestOf long (rs.take (k + 1)) = none) := by unfold Hid; rw [hst]; simp [fit]; omega
          clear hst
          go_wp2
          go_quiet (fail)
          go_wp2
          go_roundw
          case rel => exact ⟨k + 1, by omega, by go_num, .inl ⟨rfl, HST.out⟩, below_drewN HB2.out _⟩
          case measure => simp [intOf]; omega
      · obtain ⟨_, p1⟩ := hcc j (by omega)
        have r1 := cellBelow' hbr p1
        clear hcc p1 hbr
        rw [ho.out] at hst
        have HO := Lib.hid ho.out
        clear ho
        generalize hy : rs.getD j (0, 0) = y at r1 hst
        obtain ⟨y1, y2⟩ := y
        simp only [] at r1
        have HY := Lib.hid hy; clear hy
        have r3 : (wr.alloc (.cells #[.int .i64 z1, .int .i64 z2] 33)).cell? ⟨b, off + j * 2 + 1, none⟩ = some (.int .i64 y2) := cellBelow' (below1 wr _) r1
        have j0 : ¬ (j : Int) < 0 := by omega
        have i5 : (j : Int) < n := by omega
        by_cases c : long ≤ z2
        · by_cases c2 : z2 < y2
          · have HST : Hid (bestOf long (rs.take (k + 1)) = some (z1, z2)) := by unfold Hid; rw [hst]; simp [fit, c2]; omega
            clear hst
            go_wp2
            go_quiet (fail)
            go_wp2
            go_roundw
            case rel => exact ⟨k + 1, by omega, by go_num, .inr ⟨k, by omega, rfl, by rw [HZ.out]; exact HST.out⟩, below_drewN HB2.out _⟩
            case measure => simp [intOf]; omega
          · have HST : Hid (bestOf long (rs.take (k + 1)) = some (y1, y2)) := by unfold Hid; rw [hst]; simp [fit, c2]
            clear hst
            go_wp2
            go_quiet (fail)
            go_wp2
            go_roundw
            case rel => exact ⟨k + 1, by omega, by go_num, .inr ⟨j, by omega, rfl, by rw [HY.out]; exact HST.out⟩, below_drewN HB2.out _⟩
            case measure => simp [intOf]; omega
        · have cd : decide (long ≤ z2) = false := decide_eq_false c
          have HST : Hid (bestOf long (rs.take (k + 1)) = some (y1, y2)) := by unfold Hid; rw [hst]; simp [fit]; omega
          clear hst
          go_wp2
          go_quiet (fail)
          go_wp2
          go_roundw
          case rel => exact ⟨k + 1, by omega, by go_num, .inr ⟨j, by omega, rfl, by rw [HY.out]; exact HST.out⟩, below_drewN HB2.out _⟩
          case measure => simp [intOf]; omega
    · have HE : Hid (rs.take k = rs) := by unfold Hid; exact List.take_of_length_le (by rw [HN.out]; omega)
      rcases hbs with ⟨rfl, ho⟩ | ⟨j, hj, rfl, ho⟩
      · have h := ho.out
        rw [HE.out, HBO.out] at h
        cases h
      · have HJ : Hid (rs.getD j (0, 0) = (p, b2)) := by
          have h := ho.out
          rw [HE.out, HBO.out] at h
          exact (Option.some.inj h).symm
        obtain rfl : k = n := by omega
        have j0 : ¬ (j : Int) < 0 := by omega
        clear ho
        go_wp2
        go_loopw [10, 52] (fun v i wr => ∃ m : Nat, m ≤ k ∧ i = .int .i64 m ∧ OwnR wr w.heap.size v (takeL (rs.take m) long (p, b2)) ∧ Below w.heap.size w wr) (fun _ i _ => k - (intOf i).toNat)
        case atStart => exact ⟨0, Nat.zero_le _, rfl, ⟨rfl, .inl ⟨rfl, rfl⟩⟩, hbr⟩
        case round =>
          obtain ⟨m, hm, rfl, hown, hbr2⟩ := hrel
          by_cases hlt2 : m < k
          · obtain ⟨b, off, rfl, hcc⟩ := HA.out (by omega)
            obtain ⟨p0, p1⟩ := hcc m hlt2
            have q0 := cellBelow' hbr2 p0
            have q1 := cellBelow' hbr2 p1
            clear p0 p1 hcc
            have hml : m < rs.length := by rw [HN.out]; exact hlt2
            have htt := takeL_take_succ long (p, b2) hml
            have hzo := (okR_iff _).1 (HOK.out _ (getD_mem hml))
            have hne : m ≠ j → (rs.getD m (0, 0)).1 ≠ p := fun h => by have := sort_getD HS.out hml (show j < rs.length by rw [HN.out]; exact hj) h; rw [HJ.out] at this; exact this
            have heq : m = j → rs.getD m (0, 0) = (p, b2) := fun h => by rw [h]; exact HJ.out
            have hll : (takeL (rs.take m) long (p, b2)).length ≤ 1000 := by have := takeL_len (long := long) (b := (p, b2)) (rs := rs.take m); rw [List.length_take] at this; omega
            generalize rs.getD m (0, 0) = z at q0 q1 htt hzo hne heq
            obtain ⟨z1, z2⟩ := z
            simp only [] at q0 q1 hzo hne
            have i1 : (m : Int) < (k : Int) := by omega
            have HB2 := Lib.hid (bst hbr2 (below1 wr (.cells (cr (z1, z2)) 33)) hbr2.size)
            have hs2 : w.heap.size ≤ (wr.alloc (.cells (cr (z1, z2)) 33)).heap.size := HB2.out.size
            have HOW := Lib.hid (hown.below (below1 wr (.cells (cr (z1, z2)) 33)))
            have HLL := Lib.hid hll
            clear hbr2 hown hml hll
            by_cases e : m = j
            · have HT : Hid (takeL (rs.take (m + 1)) long (p, b2) = takeL (rs.take m) long (p, b2) ++ (if long < z2 then [(z1 + long, z2 - long)] else [])) := by
                unfold Hid; rw [htt, heq e]
                obtain ⟨rfl, rfl⟩ : z1 = p ∧ z2 = b2 := by simpa using heq e
                simp [cutR]
              have en : ((m : Int) != (j : Int)) = false := by simp [e]
              clear htt hne heq
              by_cases c : z2 > long
              · rw [if_pos (by omega)] at HT
                clear e
                go_wp2_with (first
                  | (at_builtin; refine wl_appRg (w := wr.alloc (.cells #[.int .i64 z1, .int .i64 z2] 33)) rfl _ _ rfl w.heap.size (wr.heap.size + 1) (by simp) u10 (takeL (rs.take m) long (p, b2)) (z1 + long) (z2 - long) rfl HOW.out rfl HLL.out hs2 ?_; intro v3 w3 hown3 hg3 hnil3; go_frame)
                  | go_in)
                have hb3 := (HB2.out.alloc HB2.out.size (.cells #[.int .i64 (z1 + long), .int .i64 (z2 - long)] 33)).grown hg3 (by simp at hs2 ⊢; omega) (fun q hq => (World.ownsRow.lt HOW.out q hq).1)
                go_roundw
                case rel => exact ⟨m + 1, by omega, by go_num, by rw [HT.out]; exact hown3, hb3⟩
                case measure => simp [intOf]; omega
              · rw [if_neg (by omega), List.append_nil] at HT
                clear e
                go_wp2
                go_roundw
                case rel => exact ⟨m + 1, by omega, by go_num, by rw [HT.out]; exact HOW.out, HB2.out⟩
                case measure => simp [intOf]; omega
            · have HT : Hid (takeL (rs.take (m + 1)) long (p, b2) = takeL (rs.take m) long (p, b2) ++ [(z1, z2)]) := by
                unfold Hid; rw [htt]; simp [cutR, hne e]
              have en : ((m : Int) != (j : Int)) = true := by simp; omega
              clear htt hne heq e
              go_wp2_with (first
                | (at_builtin; refine wl_appRg (w := wr.alloc (.cells #[.int .i64 z1, .int .i64 z2] 33)) rfl _ _ rfl w.heap.size (wr.heap.size + 1) (by simp) u10 (takeL (rs.take m) long (p, b2)) z1 z2 rfl HOW.out rfl HLL.out hs2 ?_; intro v3 w3 hown3 hg3 hnil3; go_frame)
                | go_in)
              have hb3 := (HB2.out.alloc HB2.out.size (.cells #[.int .i64 z1, .int .i64 z2] 33)).grown hg3 (by simp at hs2 ⊢; omega) (fun q hq => (World.ownsRow.lt HOW.out q hq).1)
              go_roundw
              case rel => exact ⟨m + 1, by omega, by go_num, by rw [HT.out]; exact hown3, hb3⟩
              case measure => simp [intOf]; omega
          · obtain rfl : m = k := by omega
            rw [HE.out] at hown
            obtain ⟨b, off, rfl, hcc⟩ := HA.out (by omega)
            obtain ⟨p0, _⟩ := hcc j (by omega)
            rw [HJ.out] at p0
            simp only [] at p0
            have q0 := cellBelow' hbr2 p0
            have i5 : (j : Int) < (m : Int) := by omega
            clear p0 hcc
            go_wp2
            go_quiet (fail)
            go_wp2
            go_ret3
            exact ⟨_, rfl, hown, below_drewN hbr2 _⟩
end Go.Proofs.Ytdiejmebodpjeaa
