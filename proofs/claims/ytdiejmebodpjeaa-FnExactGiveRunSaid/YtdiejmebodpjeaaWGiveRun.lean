/- The walk of laws.FnExactGiveRun. -/
import Derived.Test.YtdiejmebodpjeaaRe1
import Derived.Test.YtdiejmebodpjeaaSp5
namespace Go.Proofs.Ytdiejmebodpjeaa
open Go.RowKit Pr

set_option maxHeartbeats 6400000 in
set_option maxRecDepth 100000 in
theorem core_FnExactGiveRun (v : Value) (rs : List R) (r : R) (ts : List R) (ok : Bool) (w : World) (hz : RunsAt w v rs) (hm : rs.length ≤ 1048576) (hts : ts.length ≤ 1000)
    (hS : ∀ (w : World) (v : Value), RunsAt w v rs → Calls Try.prog 22 #[v, rn r] w (End2 ts ok w))
    (hI : ∀ (w : World) (v : Value), RunsAt w v rs → Calls Try.prog 18 #[v, rn r] w (End2 ts ok w)) :
    Calls Try.prog 8 #[v, rn r] w fun e w' => e = .returned (.bool true) ∧ Below w.heap.size w w' := by
  have HS := Lib.hid hS; have HI := Lib.hid hI
  clear hS hI
  obtain ⟨nr, hnr⟩ : ∃ n, n = ts.length := ⟨_, rfl⟩
  have HNR : Hid (ts.length = nr) := hnr.symm
  rw [← hnr] at hts
  clear hnr
  have HZ := Lib.hid hz
  have HM := Lib.hid hm
  obtain ⟨a, ca, rfl, _⟩ := id hz
  obtain ⟨n, hn⟩ : ∃ n, n = rs.length := ⟨_, rfl⟩
  have HN : Hid (rs.length = n) := hn.symm
  rw [← hn] at hm HZ ⊢
  have hl : ¬ (1048576 - (n : Int)) < 0 := by omega
  have ex : ¬ (1 : Int) + 2 * (n : Int) < 0 := by omega
  clear hz hn
  have e2 : (ok != ok) = false := by simp
  have ek : ¬ (1 : Int) + 2 * (nr : Int) < 0 := by omega
  have em : ((1 : Int) + 2 * (nr : Int) != 1 + 2 * (nr : Int)) = false := by simp
  obtain ⟨r1, r2⟩ := r
  have L := below1 w (.cells (cr (r1, r2)) 53)
  have R0 : Row _ w.heap.size 53 (cr (r1, r2)) := Row.new w _ _
  have LT := Row.lt R0
  have L0 := L.size
  go_enter Try.func8, Try.ntmps8
  go_wp2_with fail
  refine (c_szRunS_yes a n ca 1048576 _ (by omega) (by omega)).mono ?_
  rintro e w1 ⟨rfl, hww⟩
  subst hww
  have c00 := Row.cell R0 0
  have c10 := Row.cell R0 1
  go_wp2_with fail
  have KS : Hid (∀ X, Below (w.alloc (.cells (cr (r1, r2)) 53)).heap.size (w.alloc (.cells (cr (r1, r2)) 53)) X → X.cell? ⟨w.heap.size, 0, none⟩ = some (.int .i64 r1) ∧ X.cell? ⟨w.heap.size, 1, none⟩ = some (.int .i64 r2) ∧ Below (w.alloc (.cells (cr (r1, r2)) 53)).heap.size (w.alloc (.cells (cr (r1, r2)) 53)) X) := fun X hX => ⟨Row.cell (Row.below R0 hX) 0, Row.cell (Row.below R0 hX) 1, hX⟩
  have BD := below_drew (Below.refl (w.alloc (.cells (cr (r1, r2)) 53)).heap.size (w.alloc (.cells (cr (r1, r2)) 53)))
  clear c00 c10
  go_region_held3 (fun w' => w'.cell? ⟨w.heap.size, 0, none⟩ = some (.int .i64 r1) ∧ w'.cell? ⟨w.heap.size, 1, none⟩ = some (.int .i64 r2) ∧ Below (w.alloc (.cells (cr (r1, r2)) 53)).heap.size (w.alloc (.cells (cr (r1, r2)) 53)) w')
    (first
      | exact KS.out _ BD
      | exact KS.out _ (bst (by go_split_ands; assumption) hbk (Below.size (by go_split_ands; assumption)))
      | (go_split_ands; refine ⟨?_, ?_, ?_⟩ <;> assumption))
    (first
      | (go_at_call 34; refine (c_toRunS (.slice a n ca) rs _ (HZ.out.below (bst L (by go_split_ands; assumption) L.size)) HM.out).mono ?_; rintro e pS1 ⟨vapS, rfl, hoa, hbk⟩; have HOa : Hid (RunsAt pS1 vapS rs) := hoa.runs; clear hoa)
      | (go_at_call 38; refine (c_toRun (r1, r2) _).mono ?_; rintro e pS2 ⟨rfl, hbk⟩; (try (have HOb : Hid (RunsAt pS2 vapS rs) := HOa.out.below hbk)))
      | (go_at_call 22; refine (HS.out _ vapS (by first | exact HOa.out | exact HOb.out)).mono ?_; rintro e pS3 ⟨vW, rfl, ho, hbk⟩; have HOW : Hid (OwnR pS3 (w.alloc (.cells (cr (r1, r2)) 53)).heap.size vW ts) := ho.mono (Below.size (by go_split_ands; assumption)); have hb3 : Hid (Below (w.alloc (.cells (cr (r1, r2)) 53)).heap.size (w.alloc (.cells (cr (r1, r2)) 53)) pS3) := bst (by go_split_ands; assumption) hbk (Below.size (by go_split_ands; assumption)); clear ho))
  clear KS BD
  replace hb3 := hb3.out
  have hoW := HOW.out
  have UW := Lib.hid (World.ownsRow.lt hoW)
  replace R0 := Row.below R0 hb3
  have hs0 := hb3.size
  replace L := bst L hb3 L.size
  clear hb3
  have OW := hoW
  clear hoW HOW
  go_wp2_with fail
  refine (c_toRunS (.slice a n ca) rs _ (HZ.out.below L) HM.out).mono ?_
  rintro e wx ⟨vx, rfl, hox, hb⟩
  have Ux := Lib.hid (World.ownsRow.lt hox)
  replace OW := OW.below hb
  replace R0 := Row.below R0 hb
  have hs1 := hb.size
  replace L := bst L hb L.size
  clear hb
  have Ox := hox
  clear hox
  have c00 := Row.cell R0 0
  have c10 := Row.cell R0 1
  go_wp2_with fail
  clear c00 c10
  refine (c_toRun (r1, r2) _).mono ?_
  rintro e wr1 ⟨rfl, hb⟩
  replace OW := OW.below hb
  replace Ox := Ox.below hb
  replace R0 := Row.below R0 hb
  have hs2 := hb.size
  replace L := bst L hb L.size
  clear hb
  go_wp2_with fail
  refine (HI.out _ vx Ox.runs).mono ?_
  rintro e wG ⟨vG, rfl, hoG, hb⟩
  have UG := Lib.hid (World.ownsRow.lt hoG)
  replace OW := OW.below hb
  replace Ox := Ox.below hb
  replace R0 := Row.below R0 hb
  have hs3 := hb.size
  replace L := bst L hb L.size
  clear hb
  have OG := hoG
  clear hoG
  go_wp2_with fail
  refine (c_eqRuns_same vG vW ts _ OG.runs OW.runs (by rw [HNR.out]; omega)).mono ?_
  rintro e w5 ⟨rfl, hb⟩
  replace OW := OW.below hb
  replace Ox := Ox.below hb
  replace OG := OG.below hb
  replace R0 := Row.below R0 hb
  have hs4 := hb.size
  replace L := bst L hb L.size
  clear hb
  go_wp2_with fail
  refine (c_toRunS (.slice a n ca) rs _ (HZ.out.below L) HM.out).mono ?_
  rintro e wy ⟨vy, rfl, hoy, hb⟩
  have Uy := Lib.hid (World.ownsRow.lt hoy)
  replace OW := OW.below hb
  replace Ox := Ox.below hb
  replace OG := OG.below hb
  replace R0 := Row.below R0 hb
  have hs5 := hb.size
  replace L := bst L hb L.size
  clear hb
  have Oy := hoy
  clear hoy
  go_wp2_with fail
  refine (c_eqRuns_same vx vy rs _ Ox.runs Oy.runs (by have := HM.out; omega)).mono ?_
  rintro e w6 ⟨rfl, hb⟩
  replace OW := OW.below hb
  replace Ox := Ox.below hb
  replace OG := OG.below hb
  replace Oy := Oy.below hb
  replace R0 := Row.below R0 hb
  have hs6 := hb.size
  replace L := bst L hb L.size
  clear hb
  clear Oy Uy
  go_wp2_with fail
  refine (c_markRunS vx rs _ 1 _ Ox (by omega) (by rw [HN.out]; omega)).mono ?_
  rintro e w7 ⟨rfl, hox, hg⟩
  rw [HN.out] at hox ⊢
  clear Ox
  replace OW := OW.kept hg (ownApart UW.out Ux.out (by omega))
  replace OG := OG.kept hg (ownApart UG.out Ux.out (by omega))
  replace R0 := Row.grownBy R0 hg (fun e => by have := (Ux.out _ e).1; omega)
  have hs7 := hg.size
  replace L := L.grown hg L.size (fun k hk => by have := (Ux.out k hk).1; have := L0; omega)
  clear hg
  clear hox Ux
  go_wp2_with fail
  refine (c_eqRuns_same vG vW ts _ OG.runs OW.runs (by rw [HNR.out]; omega)).mono ?_
  rintro e w8 ⟨rfl, hb⟩
  replace OW := OW.below hb
  replace OG := OG.below hb
  replace R0 := Row.below R0 hb
  have hs8 := hb.size
  replace L := bst L hb L.size
  clear hb
  go_wp2_with fail
  refine (c_markRunS vG ts _ 1 _ OG (by omega) (by rw [HNR.out]; omega)).mono ?_
  rintro e w9 ⟨rfl, hoG, hg⟩
  rw [HNR.out] at hoG ⊢
  replace OW := OW.kept hg (ownApart UW.out UG.out (by omega))
  replace R0 := Row.grownBy R0 hg (fun e => by have := (UG.out _ e).1; omega)
  have hs9 := hg.size
  replace L := L.grown hg L.size (fun k hk => by have := (UG.out k hk).1; have := L0; omega)
  clear hg
  replace OG := hoG
  clear hoG
  go_wp2_with fail
  refine (c_heldRunS vG nr 1 _ OG.runs (by omega) (by omega)).mono ?_
  rintro e wha ⟨rfl, hww⟩
  subst hww
  have c00 := Row.cell R0 0
  have c10 := Row.cell R0 1
  go_wp2_with fail
  have KS : Hid (∀ X, Below w9.heap.size w9 X → X.cell? ⟨w.heap.size, 0, none⟩ = some (.int .i64 r1) ∧ X.cell? ⟨w.heap.size, 1, none⟩ = some (.int .i64 r2) ∧ Below w9.heap.size w9 X) := fun X hX => ⟨Row.cell (Row.below R0 hX) 0, Row.cell (Row.below R0 hX) 1, hX⟩
  have BD := below_drew (Below.refl w9.heap.size w9)
  clear c00 c10
  go_region_held3 (fun w' => w'.cell? ⟨w.heap.size, 0, none⟩ = some (.int .i64 r1) ∧ w'.cell? ⟨w.heap.size, 1, none⟩ = some (.int .i64 r2) ∧ Below w9.heap.size w9 w')
    (first
      | exact KS.out _ BD
      | exact KS.out _ (bst (by go_split_ands; assumption) hbk (Below.size (by go_split_ands; assumption)))
      | (go_split_ands; refine ⟨?_, ?_, ?_⟩ <;> assumption))
    (first
      | (go_at_call 34; refine (c_toRunS (.slice a n ca) rs _ (HZ.out.below (bst L (by go_split_ands; assumption) L.size)) HM.out).mono ?_; rintro e pH1 ⟨vapH, rfl, hoa, hbk⟩; have HOa : Hid (RunsAt pH1 vapH rs) := hoa.runs; clear hoa)
      | (go_at_call 38; refine (c_toRun (r1, r2) _).mono ?_; rintro e pH2 ⟨rfl, hbk⟩; (try (have HOb : Hid (RunsAt pH2 vapH rs) := HOa.out.below hbk)))
      | (go_at_call 18; refine (HI.out _ vapH (by first | exact HOa.out | exact HOb.out)).mono ?_; rintro e pH3 ⟨vH, rfl, ho, hbk⟩; have HOH : Hid (OwnR pH3 w9.heap.size vH ts) := ho.mono (Below.size (by go_split_ands; assumption)); have hb3 : Hid (Below w9.heap.size w9 pH3) := bst (by go_split_ands; assumption) hbk (Below.size (by go_split_ands; assumption)); clear ho))
  clear KS BD
  replace hb3 := hb3.out
  have hoH := HOH.out
  have UH := Lib.hid (World.ownsRow.lt hoH)
  replace OW := OW.below hb3
  replace OG := OG.below hb3
  replace R0 := Row.below R0 hb3
  have hs10 := hb3.size
  replace L := bst L hb3 L.size
  clear hb3
  have OH := hoH
  clear hoH HOH
  go_wp2_with fail
  refine (c_eqRuns_same vH vW ts _ OH.runs OW.runs (by rw [HNR.out]; omega)).mono ?_
  rintro e w10 ⟨rfl, hb⟩
  replace OW := OW.below hb
  replace OG := OG.below hb
  replace OH := OH.below hb
  replace R0 := Row.below R0 hb
  have hs11 := hb.size
  replace L := bst L hb L.size
  clear hb
  go_wp2_with fail
  refine (c_heldRunS vG nr 1 _ OG.runs (by omega) (by omega)).mono ?_
  rintro e whb ⟨rfl, hww⟩
  subst hww
  go_wp2
  go_ret
  exact ⟨rfl, L⟩
set_option maxHeartbeats 800000 in
theorem walk_FnExactGiveRun (v : Value) (rs : List (Int × Int)) (r : R) (w : World) (hz : RunsAt w v rs) (hI : Bnd rs) (hn : rs.length ≤ 9223372036854775807) (hr : i64R r) : Calls Try.prog 8 #[v, rn r] w fun e w' => e = .returned (.bool true) ∧ Below w.heap.size w w' := by
  by_cases hm : rs.length ≤ 1048576
  · cases ht : giveR rs r with
    | none => exact core_FnExactGiveRun v rs r [] false w hz hm (by simp) (fun w v h => (s_GiveRun_no v rs r w h hI hr hm ht).mono fun e w' ⟨he, hb⟩ => ⟨_, he, OwnR.nil _ _, hb⟩) (fun w v h => (c_GiveRun_no v rs r w h hI hr hm ht).mono fun e w' ⟨he, hb⟩ => ⟨_, he, OwnR.nil _ _, hb⟩)
    | some ts => exact core_FnExactGiveRun v rs r ts true w hz hm (by have := good_len16 (giveR_good ht); omega) (fun w v h => s_GiveRun_yes v rs r ts w h ht) (fun w v h => c_GiveRun_yes v rs r ts w h ht)
  · obtain ⟨a, ca, rfl, _⟩ := hz
    generalize rs.length = n at *
    go_enter Try.func8, Try.ntmps8
    go_wp2_with fail
    refine (c_szRunS_no a n ca 1048576 _ (by omega) (by omega) hn (by omega)).mono ?_
    rintro e w1 ⟨rfl, rfl⟩
    go_wp2
    go_ret
    exact ⟨rfl, below1 _ _⟩
end Go.Proofs.Ytdiejmebodpjeaa
