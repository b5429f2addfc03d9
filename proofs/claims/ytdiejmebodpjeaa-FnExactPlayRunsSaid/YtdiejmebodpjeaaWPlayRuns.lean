/- The walk of laws.FnExactPlayRuns. -/
import Derived.Test.YtdiejmebodpjeaaRe1
import Derived.Test.YtdiejmebodpjeaaSp6
namespace Go.Proofs.Ytdiejmebodpjeaa
open Go.RowKit Pr

set_option maxHeartbeats 6400000 in
set_option maxRecDepth 100000 in
theorem core_FnExactPlayRuns (v : Value) (rs : List R) (ts : List R) (zs : List Int) (ok : Bool) (w : World) (hz : RunsAt w v rs) (hm : rs.length ≤ 1048576) (hts : ts.length ≤ 1000) (hzs : zs.length ≤ 1000)
    (hS : ∀ (w : World) (v : Value), RunsAt w v rs → Calls Try.prog 25 #[v] w (EndP ts zs ok w))
    (hI : ∀ (w : World) (v : Value), RunsAt w v rs → Calls Try.prog 24 #[v] w (EndP ts zs ok w)) :
    Calls Try.prog 11 #[v] w fun e w' => e = .returned (.bool true) ∧ Below w.heap.size w w' := by
  have HS := Lib.hid hS; have HI := Lib.hid hI
  clear hS hI
  obtain ⟨nr, hnr⟩ : ∃ n, n = ts.length := ⟨_, rfl⟩
  have HNR : Hid (ts.length = nr) := hnr.symm
  rw [← hnr] at hts
  clear hnr
  obtain ⟨nz, hnz⟩ : ∃ n, n = zs.length := ⟨_, rfl⟩
  have HNZ : Hid (zs.length = nz) := hnz.symm
  rw [← hnz] at hzs
  clear hnz
  have HZ := Lib.hid hz
  have HM := Lib.hid hm
  obtain ⟨a, ca, rfl, _⟩ := id hz
  obtain ⟨n, hn⟩ : ∃ n, n = rs.length := ⟨_, rfl⟩
  have HN : Hid (rs.length = n) := hn.symm
  rw [← hn] at hm HZ ⊢
  have hl : ¬ (1048576 - (n : Int)) < 0 := by omega
  have ex : ¬ (1 : Int) + 2 * (n : Int) < 0 := by omega
  clear hz hn
  have e2 : (ok != ok) = false := by simp
  have ek : ¬ (1 : Int) + 2 * (nr : Int) < 0 := by omega
  have ek2 : ¬ (1 : Int) + 2 * (nr : Int) + (nz : Int) < 0 := by omega
  have em : ((1 : Int) + 2 * (nr : Int) + (nz : Int) != 1 + 2 * (nr : Int) + (nz : Int)) = false := by simp
  have L := Below.refl w.heap.size w
  have L0 := L.size
  go_enter Try.func11, Try.ntmps11
  go_wp2_with fail
  refine (c_szRunS_yes a n ca 1048576 _ (by omega) (by omega)).mono ?_
  rintro e w1 ⟨rfl, hww⟩
  subst hww
  go_wp2_with fail
  refine (c_toRunS (.slice a n ca) rs _ (HZ.out.below L) HM.out).mono ?_
  rintro e ws ⟨vs, rfl, hos, hb⟩
  have Us := Lib.hid (World.ownsRow.lt hos)
  have hs0 := hb.size
  replace L := bst L hb L.size
  clear hb
  have Os := hos
  clear hos
  go_wp2_with fail
  refine (HS.out _ vs Os.runs).mono ?_
  rintro e wW ⟨vW, vWz, rfl, hoW, hoWz, hapW, hb⟩
  have AW := Lib.hid hapW
  clear hapW
  have UW := Lib.hid (World.ownsRow.lt hoW)
  have UWz := Lib.hid (World.ownsRow.lt hoWz)
  replace Os := Os.below hb
  have hs1 := hb.size
  replace L := bst L hb L.size
  clear hb
  have OW := hoW
  clear hoW
  have OWz := hoWz
  clear hoWz
  clear Os Us
  go_wp2_with fail
  refine (c_toRunS (.slice a n ca) rs _ (HZ.out.below L) HM.out).mono ?_
  rintro e wx ⟨vx, rfl, hox, hb⟩
  have Ux := Lib.hid (World.ownsRow.lt hox)
  replace OW := OW.below hb
  replace OWz := OWz.below hb
  have hs2 := hb.size
  replace L := bst L hb L.size
  clear hb
  have Ox := hox
  clear hox
  go_wp2_with fail
  refine (HI.out _ vx Ox.runs).mono ?_
  rintro e wG ⟨vG, vGz, rfl, hoG, hoGz, hapG, hb⟩
  have AG := Lib.hid hapG
  clear hapG
  have UG := Lib.hid (World.ownsRow.lt hoG)
  have UGz := Lib.hid (World.ownsRow.lt hoGz)
  replace OW := OW.below hb
  replace OWz := OWz.below hb
  replace Ox := Ox.below hb
  have hs3 := hb.size
  replace L := bst L hb L.size
  clear hb
  have OG := hoG
  clear hoG
  have OGz := hoGz
  clear hoGz
  go_wp2_with fail
  refine (c_eqRuns_same vG vW ts _ OG.runs OW.runs (by rw [HNR.out]; omega)).mono ?_
  rintro e w5 ⟨rfl, hb⟩
  replace OW := OW.below hb
  replace OWz := OWz.below hb
  replace Ox := Ox.below hb
  replace OG := OG.below hb
  replace OGz := OGz.below hb
  have hs4 := hb.size
  replace L := bst L hb L.size
  clear hb
  go_wp2_with fail
  refine (c_eqInts_same vGz vWz zs _ OGz.ints OWz.ints (by rw [HNZ.out]; omega)).mono ?_
  rintro e w5z ⟨rfl, hb⟩
  replace OW := OW.below hb
  replace OWz := OWz.below hb
  replace Ox := Ox.below hb
  replace OG := OG.below hb
  replace OGz := OGz.below hb
  have hs5 := hb.size
  replace L := bst L hb L.size
  clear hb
  go_wp2_with fail
  refine (c_toRunS (.slice a n ca) rs _ (HZ.out.below L) HM.out).mono ?_
  rintro e wy ⟨vy, rfl, hoy, hb⟩
  have Uy := Lib.hid (World.ownsRow.lt hoy)
  replace OW := OW.below hb
  replace OWz := OWz.below hb
  replace Ox := Ox.below hb
  replace OG := OG.below hb
  replace OGz := OGz.below hb
  have hs6 := hb.size
  replace L := bst L hb L.size
  clear hb
  have Oy := hoy
  clear hoy
  go_wp2_with fail
  refine (c_eqRuns_same vx vy rs _ Ox.runs Oy.runs (by have := HM.out; omega)).mono ?_
  rintro e w6 ⟨rfl, hb⟩
  replace OW := OW.below hb
  replace OWz := OWz.below hb
  replace Ox := Ox.below hb
  replace OG := OG.below hb
  replace OGz := OGz.below hb
  replace Oy := Oy.below hb
  have hs7 := hb.size
  replace L := bst L hb L.size
  clear hb
  clear Oy Uy
  go_wp2_with fail
  refine (c_markRunS vx rs _ 1 _ Ox (by omega) (by rw [HN.out]; omega)).mono ?_
  rintro e w7 ⟨rfl, hox, hg⟩
  rw [HN.out] at hox ⊢
  clear Ox
  replace OW := OW.kept hg (ownApart UW.out Ux.out (by omega))
  replace OWz := OWz.kept hg (ownApart UWz.out Ux.out (by omega))
  replace OG := OG.kept hg (ownApart UG.out Ux.out (by omega))
  replace OGz := OGz.kept hg (ownApart UGz.out Ux.out (by omega))
  have hs8 := hg.size
  replace L := L.grown hg L.size (fun k hk => by have := (Ux.out k hk).1; have := L0; omega)
  clear hg
  clear hox Ux
  go_wp2_with fail
  refine (c_eqRuns_same vG vW ts _ OG.runs OW.runs (by rw [HNR.out]; omega)).mono ?_
  rintro e w8 ⟨rfl, hb⟩
  replace OW := OW.below hb
  replace OWz := OWz.below hb
  replace OG := OG.below hb
  replace OGz := OGz.below hb
  have hs9 := hb.size
  replace L := bst L hb L.size
  clear hb
  go_wp2_with fail
  refine (c_eqInts_same vGz vWz zs _ OGz.ints OWz.ints (by rw [HNZ.out]; omega)).mono ?_
  rintro e w8z ⟨rfl, hb⟩
  replace OW := OW.below hb
  replace OWz := OWz.below hb
  replace OG := OG.below hb
  replace OGz := OGz.below hb
  have hs10 := hb.size
  replace L := bst L hb L.size
  clear hb
  go_wp2_with fail
  refine (c_markRunS vG ts _ 1 _ OG (by omega) (by rw [HNR.out]; omega)).mono ?_
  rintro e w9 ⟨rfl, hoG, hg⟩
  rw [HNR.out] at hoG ⊢
  have hap := AG.out
  replace OW := OW.kept hg (ownApart UW.out UG.out (by omega))
  replace OWz := OWz.kept hg (ownApart UWz.out UG.out (by omega))
  replace OGz := OGz.kept hg (ownSwap hap)
  have hs11 := hg.size
  replace L := L.grown hg L.size (fun k hk => by have := (UG.out k hk).1; have := L0; omega)
  clear hg hap
  replace OG := hoG
  clear hoG
  go_wp2_with fail
  refine (c_markIntS vGz zs _ _ _ OGz (by omega) (by rw [HNZ.out]; omega)).mono ?_
  rintro e w9z ⟨rfl, hoGz, hg⟩
  rw [HNZ.out] at hoGz ⊢
  replace OW := OW.kept hg (ownApart UW.out UGz.out (by omega))
  replace OWz := OWz.kept hg (ownApart UWz.out UGz.out (by omega))
  replace OG := OG.kept hg AG.out
  have hs12 := hg.size
  replace L := L.grown hg L.size (fun k hk => by have := (UGz.out k hk).1; have := L0; omega)
  clear hg
  replace OGz := hoGz
  clear hoGz
  go_wp2_with fail
  refine (c_heldRunS vG nr 1 _ OG.runs (by omega) (by omega)).mono ?_
  rintro e wha ⟨rfl, hww⟩
  subst hww
  go_wp2_with fail
  refine (c_heldIntS vGz nz (1 + 2 * (nr : Int)) _ OGz.ints (by omega) (by omega)).mono ?_
  rintro e whza ⟨rfl, hww⟩
  subst hww
  go_wp2_with fail
  refine (c_toRunS (.slice a n ca) rs _ (HZ.out.below L) HM.out).mono ?_
  rintro e wt ⟨vt, rfl, hot, hb⟩
  have Ut := Lib.hid (World.ownsRow.lt hot)
  replace OW := OW.below hb
  replace OWz := OWz.below hb
  replace OG := OG.below hb
  replace OGz := OGz.below hb
  have hs13 := hb.size
  replace L := bst L hb L.size
  clear hb
  have Ot := hot
  clear hot
  go_wp2_with fail
  refine (HI.out _ vt Ot.runs).mono ?_
  rintro e wH ⟨vH, vHz, rfl, hoH, hoHz, hapH, hb⟩
  have AH := Lib.hid hapH
  clear hapH
  have UH := Lib.hid (World.ownsRow.lt hoH)
  have UHz := Lib.hid (World.ownsRow.lt hoHz)
  replace OW := OW.below hb
  replace OWz := OWz.below hb
  replace OG := OG.below hb
  replace OGz := OGz.below hb
  replace Ot := Ot.below hb
  have hs14 := hb.size
  replace L := bst L hb L.size
  clear hb
  have OH := hoH
  clear hoH
  have OHz := hoHz
  clear hoHz
  go_wp2_with fail
  refine (c_eqRuns_same vH vW ts _ OH.runs OW.runs (by rw [HNR.out]; omega)).mono ?_
  rintro e w10 ⟨rfl, hb⟩
  replace OW := OW.below hb
  replace OWz := OWz.below hb
  replace OG := OG.below hb
  replace OGz := OGz.below hb
  replace Ot := Ot.below hb
  replace OH := OH.below hb
  replace OHz := OHz.below hb
  have hs15 := hb.size
  replace L := bst L hb L.size
  clear hb
  go_wp2_with fail
  refine (c_eqInts_same vHz vWz zs _ OHz.ints OWz.ints (by rw [HNZ.out]; omega)).mono ?_
  rintro e w10z ⟨rfl, hb⟩
  replace OW := OW.below hb
  replace OWz := OWz.below hb
  replace OG := OG.below hb
  replace OGz := OGz.below hb
  replace Ot := Ot.below hb
  replace OH := OH.below hb
  replace OHz := OHz.below hb
  have hs16 := hb.size
  replace L := bst L hb L.size
  clear hb
  go_wp2_with fail
  refine (c_heldRunS vG nr 1 _ OG.runs (by omega) (by omega)).mono ?_
  rintro e whb ⟨rfl, hww⟩
  subst hww
  go_wp2_with fail
  refine (c_heldIntS vGz nz (1 + 2 * (nr : Int)) _ OGz.ints (by omega) (by omega)).mono ?_
  rintro e whzb ⟨rfl, hww⟩
  subst hww
  go_wp2
  go_ret
  exact ⟨rfl, L⟩
set_option maxHeartbeats 800000 in
theorem walk_FnExactPlayRuns (v : Value) (rs : List (Int × Int)) (w : World) (hz : RunsAt w v rs) (hI : Bnd rs) (hn : rs.length ≤ 9223372036854775807) : Calls Try.prog 11 #[v] w fun e w' => e = .returned (.bool true) ∧ Below w.heap.size w w' := by
  by_cases hm : rs.length ≤ 1048576
  · by_cases h40 : rs.length ≤ 40
    · have hp := playTo_good rs rs.length (Nat.le_refl _)
      rw [List.take_length] at hp
      exact core_FnExactPlayRuns v rs (playTo rs).1 (playTo rs).2 true w hz hm (by have := good_len16 hp.1; omega) (by omega) (fun w v h => s_PlayRuns_yes v rs w h hI h40) (fun w v h => c_PlayRuns_yes v rs w h hI h40)
    · exact core_FnExactPlayRuns v rs [] [] false w hz hm (by simp) (by simp) (fun w v h => s_PlayRuns_no v rs w h h40) (fun w v h => c_PlayRuns_no v rs w h h40)
  · obtain ⟨a, ca, rfl, _⟩ := hz
    generalize rs.length = n at *
    go_enter Try.func11, Try.ntmps11
    go_wp2_with fail
    refine (c_szRunS_no a n ca 1048576 _ (by omega) (by omega) hn (by omega)).mono ?_
    rintro e w1 ⟨rfl, rfl⟩
    go_wp2
    go_ret
    exact ⟨rfl, Below.refl _ _⟩
end Go.Proofs.Ytdiejmebodpjeaa
