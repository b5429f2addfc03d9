/- The walk of laws.FnExactAllFree. -/
import Derived.Test.YtdiejmebodpjeaaRe1
namespace Go.Proofs.Ytdiejmebodpjeaa
open Go.RowKit Pr

set_option maxHeartbeats 6400000 in
set_option maxRecDepth 100000 in
theorem core_FnExactAllFree (ts : List R) (w : World) (hts : ts.length ≤ 1000)
    (hS : ∀ (w : World), Calls Try.prog 32 #[] w (End1 ts w))
    (hI : ∀ (w : World), Calls Try.prog 31 #[] w (End1 ts w)) :
    Calls Try.prog 6 #[] w fun e w' => e = .returned (.bool true) ∧ Below w.heap.size w w' := by
  have HS := Lib.hid hS; have HI := Lib.hid hI
  clear hS hI
  obtain ⟨nr, hnr⟩ : ∃ n, n = ts.length := ⟨_, rfl⟩
  have HNR : Hid (ts.length = nr) := hnr.symm
  rw [← hnr] at hts
  clear hnr
  have ek : ¬ (1 : Int) + 2 * (nr : Int) < 0 := by omega
  have em : ((1 : Int) + 2 * (nr : Int) != 1 + 2 * (nr : Int)) = false := by simp
  have L := Below.refl w.heap.size w
  have L0 := L.size
  go_enter Try.func6, Try.ntmps6
  go_wp2_with fail
  refine (HS.out _).mono ?_
  rintro e wW ⟨vW, rfl, hoW, hb⟩
  have UW := Lib.hid (World.ownsRow.lt hoW)
  have hs0 := hb.size
  replace L := bst L hb L.size
  clear hb
  have OW := hoW
  clear hoW
  go_wp2_with fail
  refine (HI.out _).mono ?_
  rintro e wG ⟨vG, rfl, hoG, hb⟩
  have UG := Lib.hid (World.ownsRow.lt hoG)
  replace OW := OW.below hb
  have hs1 := hb.size
  replace L := bst L hb L.size
  clear hb
  have OG := hoG
  clear hoG
  go_wp2_with fail
  refine (c_eqRuns_same vG vW ts _ OG.runs OW.runs (by rw [HNR.out]; omega)).mono ?_
  rintro e w5 ⟨rfl, hb⟩
  replace OW := OW.below hb
  replace OG := OG.below hb
  have hs2 := hb.size
  replace L := bst L hb L.size
  clear hb
  go_wp2_with fail
  refine (c_markRunS vG ts _ 1 _ OG (by omega) (by rw [HNR.out]; omega)).mono ?_
  rintro e w9 ⟨rfl, hoG, hg⟩
  rw [HNR.out] at hoG ⊢
  replace OW := OW.kept hg (ownApart UW.out UG.out (by omega))
  have hs3 := hg.size
  replace L := L.grown hg L.size (fun k hk => by have := (UG.out k hk).1; have := L0; omega)
  clear hg
  replace OG := hoG
  clear hoG
  go_wp2_with fail
  refine (c_heldRunS vG nr 1 _ OG.runs (by omega) (by omega)).mono ?_
  rintro e wha ⟨rfl, hww⟩
  subst hww
  go_wp2_with fail
  refine (HI.out _).mono ?_
  rintro e wH ⟨vH, rfl, hoH, hb⟩
  have UH := Lib.hid (World.ownsRow.lt hoH)
  replace OW := OW.below hb
  replace OG := OG.below hb
  have hs4 := hb.size
  replace L := bst L hb L.size
  clear hb
  have OH := hoH
  clear hoH
  go_wp2_with fail
  refine (c_eqRuns_same vH vW ts _ OH.runs OW.runs (by rw [HNR.out]; omega)).mono ?_
  rintro e w10 ⟨rfl, hb⟩
  replace OW := OW.below hb
  replace OG := OG.below hb
  replace OH := OH.below hb
  have hs5 := hb.size
  replace L := bst L hb L.size
  clear hb
  go_wp2_with fail
  refine (c_heldRunS vG nr 1 _ OG.runs (by omega) (by omega)).mono ?_
  rintro e whb ⟨rfl, hww⟩
  subst hww
  go_wp2
  go_ret
  exact ⟨rfl, L⟩
theorem walk_FnExactAllFree (w : World) : Calls Try.prog 6 #[] w fun e w' => e = .returned (.bool true) ∧ Below w.heap.size w w' :=
  core_FnExactAllFree [(0, 32)] w (by simp) s_AllFree c_AllFree
end Go.Proofs.Ytdiejmebodpjeaa
