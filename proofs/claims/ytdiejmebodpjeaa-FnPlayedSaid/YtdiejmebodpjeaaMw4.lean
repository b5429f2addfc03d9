/- The first of the shortest runs that are long enough, by the map; what is taken. -/
import Derived.Test.YtdiejmebodpjeaaMw3
namespace Go.Proofs.Ytdiejmebodpjeaa
open Go.RowKit Go.Maps Go.Sort Pr

def bk (o : Option R) : Int := (o.map (·.1)).getD 0

set_option maxRecDepth 100000 in
set_option maxHeartbeats 3200000 in
theorem c_bestFit (b n : Nat) (rs : List (Int × Int)) (long : Int) (w : World) (hM : MapR w b n rs) (hs : SortK rs) (hI : Bnd rs) (hlen : rs.length ≤ 900) :
    Calls Try.prog 45 #[.map (some b), .int .i64 long] w fun e w' => e = .returned (.tuple #[.int .i64 (bk (bestOf long rs)), .bool (bestOf long rs).isSome]) ∧ Below w.heap.size w w' := by
  have hbl : b < w.heap.size := World.ownsMap.lt hM
  have HM := Lib.hid hM
  have HS := Lib.hid hs
  have HI := Lib.hid hI
  clear hM hs hI
  generalize hn : rs.length = nn at *
  have HN := Lib.hid hn; clear hn
  go_enter Try.func45, Try.ntmps45
  go_wp2_with (first
    | (go_at_call 60; refine (c_starts b n rs w HM.out HS.out (by rw [HN.out]; omega)).mono ?_; rintro e w2 ⟨v2, rfl, ho2, hb2⟩; have HO2 := Lib.hid ho2; have HB2 := Lib.hid hb2; obtain ⟨ga, gc, hvs⟩ := ho2.shape'; rw [List.length_map, HN.out] at hvs; subst hvs; clear ho2 hb2)
    | go_in)
  have HM2 := Lib.hid (HM.out.below HB2.out)
  go_loop [6, 7, 13] (fun bs fd i => ∃ k : Nat, k ≤ nn ∧ i = .int .i64 k ∧ bs = .int .i64 (bk (bestOf long (rs.take k))) ∧ fd = .bool (bestOf long (rs.take k)).isSome) (fun _ _ i => nn - (intOf i).toNat)
  case atStart => exact ⟨0, Nat.zero_le _, rfl, rfl, rfl⟩
  case round =>
    obtain ⟨k, hk, rfl, rfl, rfl⟩ := hrel
    by_cases hlt : k < nn
    · obtain ⟨gb, go, rfl, q0⟩ := HO2.out.ints.cell (by rw [List.length_map, HN.out]) hlt
      have hkl : k < rs.length := by rw [HN.out]; exact hlt
      rw [starts_getD hkl] at q0
      have hlk := lookR_mem HS.out (getD_mem hkl)
      have hz := HI.out.at k
      have hst := bestOf_take_succ long hkl
      generalize rs.getD k (0, 0) = z at q0 hlk hz hst
      obtain ⟨z1, z2⟩ := z
      obtain ⟨zb, _⟩ := hz
      simp only [] at q0 hlk zb
      have hrun := HM2.out.look zb
      rw [hlk] at hrun
      simp only [Option.getD_some] at hrun
      have i1 : (k : Int) < (nn : Int) := by omega
      clear hlk hkl zb
      cases ho : bestOf long (rs.take k) with
      | none =>
        rw [ho] at hst
        simp only [bk, Option.map_none, Option.getD_none, Option.isSome_none]
        by_cases c : z2 ≥ long
        · have HST : Hid (bestOf long (rs.take (k + 1)) = some (z1, z2)) := by unfold Hid; rw [hst]; simp [fit]; omega
          clear hst
          go_wp2
          go_round
          case rel => exact ⟨k + 1, by omega, by go_num, by rw [HST.out]; rfl, by rw [HST.out]; rfl⟩
          case measure => simp [intOf]; omega
        · have HST : Hid (bestOf long (rs.take (k + 1)) = none) := by unfold Hid; rw [hst]; simp [fit]; omega
          clear hst
          go_wp2
          go_round
          case rel => exact ⟨k + 1, by omega, by go_num, by rw [HST.out]; rfl, by rw [HST.out]; rfl⟩
          case measure => simp [intOf]; omega
      | some y =>
        obtain ⟨y1, y2⟩ := y
        have hmem : ((y1, y2) : R) ∈ rs := List.mem_of_mem_take (bestOf_some ho).1
        have hyl := lookR_mem HS.out hmem
        have hyb := (HI.out _ hmem).1
        simp only [] at hyl hyb
        have hrun2 := HM2.out.look hyb
        rw [hyl] at hrun2
        simp only [Option.getD_some] at hrun2
        rw [ho] at hst
        clear hmem hyl hyb
        have HO := Lib.hid ho; clear ho
        simp only [bk, Option.map_some, Option.getD_some, Option.isSome_some]
        by_cases c : z2 ≥ long
        · by_cases c2 : z2 < y2
          · have HST : Hid (bestOf long (rs.take (k + 1)) = some (z1, z2)) := by unfold Hid; rw [hst]; simp [fit, c2]; omega
            clear hst
            go_wp2
            go_round
            case rel => exact ⟨k + 1, by omega, by go_num, by rw [HST.out]; rfl, by rw [HST.out]; rfl⟩
            case measure => simp [intOf]; omega
          · have HST : Hid (bestOf long (rs.take (k + 1)) = some (y1, y2)) := by unfold Hid; rw [hst]; simp [fit, c2]
            clear hst
            go_wp2
            go_round
            case rel => exact ⟨k + 1, by omega, by go_num, by rw [HST.out]; rfl, by rw [HST.out]; rfl⟩
            case measure => simp [intOf]; omega
        · have HST : Hid (bestOf long (rs.take (k + 1)) = some (y1, y2)) := by unfold Hid; rw [hst]; simp [fit]; omega
          clear hst
          go_wp2
          go_round
          case rel => exact ⟨k + 1, by omega, by go_num, by rw [HST.out]; rfl, by rw [HST.out]; rfl⟩
          case measure => simp [intOf]; omega
    · obtain rfl : k = nn := by omega
      have HE : Hid (rs.take k = rs) := by unfold Hid; exact List.take_of_length_le (by rw [HN.out]; omega)
      rw [HE.out]
      go_wp2
      go_ret2
      exact ⟨rfl, HB2.out⟩
end Go.Proofs.Ytdiejmebodpjeaa
