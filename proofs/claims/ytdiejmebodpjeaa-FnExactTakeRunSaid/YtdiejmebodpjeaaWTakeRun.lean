/- The walk of laws.FnExactTakeRun. -/
import Derived.Test.YtdiejmebodpjeaaRe1
import Derived.Test.YtdiejmebodpjeaaSp2
namespace Go.Proofs.Ytdiejmebodpjeaa
open Go.RowKit Pr

set_option maxHeartbeats 6400000 in
set_option maxRecDepth 100000 in
theorem core_FnExactTakeRun (v : Value) (rs : List R) (long : Int) (ts : List R) (p : Int) (ok : Bool) (w : World) (hz : RunsAt w v rs) (hm : rs.length ≤ 1048576) (hts : ts.length ≤ 1000)
    (hS : ∀ (w : World) (v : Value), RunsAt w v rs → Calls Try.prog 14 #[v, .int .i64 long] w (End3 ts p ok w))
    (hI : ∀ (w : World) (v : Value), RunsAt w v rs → Calls Try.prog 13 #[v, .int .i64 long] w (End3 ts p ok w)) :
    Calls Try.prog 7 #[v, .int .i64 long] w fun e w' => e = .returned (.bool true) ∧ Below w.heap.size w w' := by
  have HS := Lib.hid hS; have HI := Lib.hid hI
  clear hS hI
  obtain ⟨nr, hnr⟩ : ∃ n, n = ts.length := ⟨_, rfl⟩
  have HNR : Hid (ts.length = nr) := hnr.symm
  rw [← hnr] at hts
  clear hnr
  have HZ := Lib.hid hz
  have HM := Lib.hid hm
  obtain ⟨a, ca, rfl, _⟩ := id hz
  obtain ⟨n, hn⟩ : ∃ n, n = rs.length := ⟨_, rfl⟩
  have HN : Hid (rs.length = n) := hn.symm
  rw [← hn] at hm HZ ⊢
  have hl : ¬ (1048576 - (n : Int)) < 0 := by omega
  have ex : ¬ (1 : Int) + 2 * (n : Int) < 0 := by omega
  clear hz hn
  have e1 : (p != p) = false := by simp
  have e2 : (ok != ok) = false := by simp
  have ek : ¬ (1 : Int) + 2 * (nr : Int) < 0 := by omega
  have em : ((1 : Int) + 2 * (nr : Int) != 1 + 2 * (nr : Int)) = false := by simp
  have L := Below.refl w.heap.size w
  have L0 := L.size
  go_enter Try.func7, Try.ntmps7
  go_wp2_with fail
  refine (c_szRunS_yes a n ca 1048576 _ (by omega) (by omega)).mono ?_
  rintro e w1 ⟨rfl, hww⟩
  subst hww
  go_wp2_with fail
  refine (c_toRunS (.slice a n ca) rs _ (HZ.out.below L) HM.out).mono ?_
  rintro e ws ⟨vs, rfl, hos, hb⟩
  have Us := Lib.hid (World.ownsRow.lt hos)
  have hs0 := hb.size
  replace L := bst L hb L.size
  clear hb
  have Os := hos
  clear hos
  go_wp2_with fail
  refine (HS.out _ vs Os.runs).mono ?_
  rintro e wW ⟨vW, rfl, hoW, hb⟩
  have UW := Lib.hid (World.ownsRow.lt hoW)
  replace Os := Os.below hb
  have hs1 := hb.size
  replace L := bst L hb L.size
  clear hb
  have OW := hoW
  clear hoW
  clear Os Us
  go_wp2_with fail
  refine (c_toRunS (.slice a n ca) rs _ (HZ.out.below L) HM.out).mono ?_
  rintro e wx ⟨vx, rfl, hox, hb⟩
  have Ux := Lib.hid (World.ownsRow.lt hox)
  replace OW := OW.below hb
  have hs2 := hb.size
  replace L := bst L hb L.size
  clear hb
  have Ox := hox
  clear hox
  go_wp2_with fail
  refine (HI.out _ vx Ox.runs).mono ?_
  rintro e wG ⟨vG, rfl, hoG, hb⟩
  have UG := Lib.hid (World.ownsRow.lt hoG)
  replace OW := OW.below hb
  replace Ox := Ox.below hb
  have hs3 := hb.size
  replace L := bst L hb L.size
  clear hb
  have OG := hoG
  clear hoG
  go_wp2_with fail
  refine (c_eqRuns_same vG vW ts _ OG.runs OW.runs (by rw [HNR.out]; omega)).mono ?_
  rintro e w5 ⟨rfl, hb⟩
  replace OW := OW.below hb
  replace Ox := Ox.below hb
  replace OG := OG.below hb
  have hs4 := hb.size
  replace L := bst L hb L.size
  clear hb
  go_wp2_with fail
  refine (c_toRunS (.slice a n ca) rs _ (HZ.out.below L) HM.out).mono ?_
  rintro e wy ⟨vy, rfl, hoy, hb⟩
  have Uy := Lib.hid (World.ownsRow.lt hoy)
  replace OW := OW.below hb
  replace Ox := Ox.below hb
  replace OG := OG.below hb
  have hs5 := hb.size
  replace L := bst L hb L.size
  clear hb
  have Oy := hoy
  clear hoy
  go_wp2_with fail
  refine (c_eqRuns_same vx vy rs _ Ox.runs Oy.runs (by have := HM.out; omega)).mono ?_
  rintro e w6 ⟨rfl, hb⟩
  replace OW := OW.below hb
  replace Ox := Ox.below hb
  replace OG := OG.below hb
  replace Oy := Oy.below hb
  have hs6 := hb.size
  replace L := bst L hb L.size
  clear hb
  clear Oy Uy
  go_wp2_with fail
  refine (c_markRunS vx rs _ 1 _ Ox (by omega) (by rw [HN.out]; omega)).mono ?_
  rintro e w7 ⟨rfl, hox, hg⟩
  rw [HN.out] at hox ⊢
  clear Ox
  replace OW := OW.kept hg (ownApart UW.out Ux.out (by omega))
  replace OG := OG.kept hg (ownApart UG.out Ux.out (by omega))
  have hs7 := hg.size
  replace L := L.grown hg L.size (fun k hk => by have := (Ux.out k hk).1; have := L0; omega)
  clear hg
  clear hox Ux
  go_wp2_with fail
  refine (c_eqRuns_same vG vW ts _ OG.runs OW.runs (by rw [HNR.out]; omega)).mono ?_
  rintro e w8 ⟨rfl, hb⟩
  replace OW := OW.below hb
  replace OG := OG.below hb
  have hs8 := hb.size
  replace L := bst L hb L.size
  clear hb
  go_wp2_with fail
  refine (c_markRunS vG ts _ 1 _ OG (by omega) (by rw [HNR.out]; omega)).mono ?_
  rintro e w9 ⟨rfl, hoG, hg⟩
  rw [HNR.out] at hoG ⊢
  replace OW := OW.kept hg (ownApart UW.out UG.out (by omega))
  have hs9 := hg.size
  replace L := L.grown hg L.size (fun k hk => by have := (UG.out k hk).1; have := L0; omega)
  clear hg
  replace OG := hoG
  clear hoG
  go_wp2_with fail
  refine (c_heldRunS vG nr 1 _ OG.runs (by omega) (by omega)).mono ?_
  rintro e wha ⟨rfl, hww⟩
  subst hww
  go_wp2_with fail
  refine (c_toRunS (.slice a n ca) rs _ (HZ.out.below L) HM.out).mono ?_
  rintro e wt ⟨vt, rfl, hot, hb⟩
  have Ut := Lib.hid (World.ownsRow.lt hot)
  replace OW := OW.below hb
  replace OG := OG.below hb
  have hs10 := hb.size
  replace L := bst L hb L.size
  clear hb
  have Ot := hot
  clear hot
  go_wp2_with fail
  refine (HI.out _ vt Ot.runs).mono ?_
  rintro e wH ⟨vH, rfl, hoH, hb⟩
  have UH := Lib.hid (World.ownsRow.lt hoH)
  replace OW := OW.below hb
  replace OG := OG.below hb
  replace Ot := Ot.below hb
  have hs11 := hb.size
  replace L := bst L hb L.size
  clear hb
  have OH := hoH
  clear hoH
  go_wp2_with fail
  refine (c_eqRuns_same vH vW ts _ OH.runs OW.runs (by rw [HNR.out]; omega)).mono ?_
  rintro e w10 ⟨rfl, hb⟩
  replace OW := OW.below hb
  replace OG := OG.below hb
  replace Ot := Ot.below hb
  replace OH := OH.below hb
  have hs12 := hb.size
  replace L := bst L hb L.size
  clear hb
  go_wp2_with fail
  refine (c_heldRunS vG nr 1 _ OG.runs (by omega) (by omega)).mono ?_
  rintro e whb ⟨rfl, hww⟩
  subst hww
  go_wp2
  go_ret
  exact ⟨rfl, L⟩
set_option maxHeartbeats 800000 in
theorem walk_FnExactTakeRun (v : Value) (rs : List (Int × Int)) (long : Int) (w : World) (hz : RunsAt w v rs) (hI : Bnd rs) (hn : rs.length ≤ 9223372036854775807) (_ : -9223372036854775808 ≤ long ∧ long ≤ 9223372036854775807) : Calls Try.prog 7 #[v, .int .i64 long] w fun e w' => e = .returned (.bool true) ∧ Below w.heap.size w w' := by
  by_cases hm : rs.length ≤ 1048576
  · cases ht : takeR rs long with
    | none => exact core_FnExactTakeRun v rs long [] 0 false w hz hm (by simp) (fun w v h => (s_TakeRun_no v rs long w h hI hm ht).mono fun e w' ⟨he, hb⟩ => ⟨_, he, OwnR.nil _ _, hb⟩) (fun w v h => (c_TakeRun_no v rs long w h hI hm ht).mono fun e w' ⟨he, hb⟩ => ⟨_, he, OwnR.nil _ _, hb⟩)
    | some x =>
      obtain ⟨ts, p⟩ := x
      exact core_FnExactTakeRun v rs long ts p true w hz hm (by have := good_len16 (takeR_good ht).1; omega) (fun w v h => s_TakeRun_yes v rs long ts p w h ht) (fun w v h => c_TakeRun_yes v rs long ts p w h ht)
  · obtain ⟨a, ca, rfl, _⟩ := hz
    generalize rs.length = n at *
    go_enter Try.func7, Try.ntmps7
    go_wp2_with fail
    refine (c_szRunS_no a n ca 1048576 _ (by omega) (by omega) hn (by omega)).mono ?_
    rintro e w1 ⟨rfl, rfl⟩
    go_wp2
    go_ret
    exact ⟨rfl, Below.refl _ _⟩
end Go.Proofs.Ytdiejmebodpjeaa
