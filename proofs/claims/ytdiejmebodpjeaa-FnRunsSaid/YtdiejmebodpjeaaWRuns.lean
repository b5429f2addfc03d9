/- The walk of laws.FnRuns. -/
import Derived.Test.YtdiejmebodpjeaaDn3
namespace Go.Proofs.Ytdiejmebodpjeaa.Pr
theorem take_none_max {rs : List R} {x : Int} (ht : takeR rs x = none) (hg : good 0 rs = true) (h1 : 1 ≤ x) (hm : x ≤ maxR rs) : False := by
  have hb := maxR_bound (rs := rs) (fun r hr => (good_mem hg r hr).1) rs.length (Nat.le_refl _)
  rw [List.take_length] at hb
  unfold takeR at ht
  rw [if_pos ⟨hg, h1, by omega⟩] at ht
  exact bestOf_max h1 (Option.map_eq_none_iff.1 ht) hm
theorem take_sum {rs : List R} {x : Int} {ts : List R} {p : Int} (ht : takeR rs x = some (ts, p)) : sumR ts + x = sumR rs := by
  obtain ⟨hg, h1, h2, b, hb, rfl, rfl⟩ := takeR_some ht
  obtain ⟨hm, hl, _⟩ := bestOf_some hb
  exact takeL_sum hl (good_sort hg) hm
theorem take_best {rs : List R} {x : Int} {ts : List R} {p : Int} (ht : takeR rs x = some (ts, p)) : ∀ z ∈ rs, z.1 = p → ∀ q ∈ rs, x ≤ q.2 → z.2 ≤ q.2 := by
  obtain ⟨hg, h1, h2, b, hb, rfl, rfl⟩ := takeR_some ht
  obtain ⟨hm, hl, hq⟩ := bestOf_some hb
  intro z hz e q hqm hx
  rw [sort_inj (good_sort hg) hz hm e]
  exact hq q hqm hx
theorem take_back {rs : List R} {x : Int} {ts : List R} {p : Int} (ht : takeR rs x = some (ts, p)) : giveR ts (p, x) = some rs := by
  have htg := (takeR_good ht).1
  obtain ⟨hg, h1, h2, b, hb, rfl, rfl⟩ := takeR_some ht
  obtain ⟨hm, hl, _⟩ := bestOf_some hb
  have hbo := (okR_iff _).1 (good_mem hg b hm).1
  have hok : okR (b.1, x) = true := (okR_iff _).2 ⟨hbo.1, h1, by simp only []; omega⟩
  have hme : meetsR (takeL rs x b) (b.1, x) = false := by
    cases e : meetsR (takeL rs x b) (b.1, x) with
    | false => rfl
    | true =>
      obtain ⟨y, hy, h3, h4⟩ := meetsR_true e
      simp only [] at h3 h4
      have hyo := (okR_iff _).1 (good_mem htg y hy).1
      have hp : ∃ q : Int, (y.1 ≤ q ∧ q < y.1 + y.2) ∧ (b.1 ≤ q ∧ q < b.1 + x) := by
        by_cases c : y.1 ≤ b.1
        · exact ⟨b.1, by omega, by omega⟩
        · exact ⟨y.1, by omega, by omega⟩
      obtain ⟨q, hq1, hq2⟩ := hp
      exact absurd hq2 (((takeL_pg hg hm h1 hl q).1 ⟨y, hy, hq1.1, hq1.2⟩).2)
  unfold giveR
  rw [if_pos ⟨htg, hok, hme⟩]
  obtain ⟨g1, g2⟩ := giveL_spec htg hok hme
  congr 1
  refine good_unique g1 hg fun q => ?_
  rw [g2 q, takeL_pg hg hm h1 hl q]
  simp only []
  constructor
  · rintro (⟨h, _⟩ | h)
    · exact h
    · exact ⟨b, hm, by omega, by omega⟩
  · intro h
    by_cases c : b.1 ≤ q ∧ q < b.1 + x
    · exact .inr c
    · exact .inl ⟨h, c⟩
theorem sum_small {ts : List R} (hg : good 0 ts = true) : 0 ≤ sumR ts ∧ sumR ts ≤ 512 := by
  have h := sumR_bound (rs := ts) (fun r hr => (good_mem hg r hr).1) ts.length (Nat.le_refl _)
  rw [List.take_length] at h
  have := good_len16 hg
  omega
end Go.Proofs.Ytdiejmebodpjeaa.Pr
namespace Go.Proofs.Ytdiejmebodpjeaa
open Go.RowKit Pr

set_option maxRecDepth 100000 in
set_option maxHeartbeats 12800000 in
theorem walk_FnRuns (v0 : Value) (zc : List Int) (v1 : Value) (zm : List Int) (w : World) (hc : BytesAt w v0 zc) (hm : BytesAt w v1 zm) :
    Calls Try.prog 3 #[v0, v1] w fun e w' => e = .returned (.bool true) ∧ Below w.heap.size w w' := by
  have HC := Lib.hid hc; have HM := Lib.hid hm
  have n0 := hc.1
  have n1 := hm.1
  obtain ⟨_, _, a0, c0, rfl, _⟩ := hc
  obtain ⟨_, _, a1, c1, rfl, _⟩ := hm
  generalize zc.length = nc at *
  generalize zm.length = nm at *
  by_cases hs : 1048576 < wrap64 ((nc : Int) + (nm : Int))
  · go_enter Try.func3, Try.ntmps3
    go_wp2
    go_ret
    exact ⟨rfl, Below.refl _ _⟩
  · go_enter Try.func3, Try.ntmps3
    go_wp2_with fail
    refine (c_DrawTakeRun _ zc _ HC.out).mono ?_
    rintro e wd ⟨v_l, rs, x, rfl, hx, hl, hsm, ho, hb⟩
    have O_l := Lib.hid ho; have B := Lib.hid hb; have HL := Lib.hid hl; have HSB := Lib.hid hsm.bnd
    clear ho hb hl hsm
    cases ht : takeR rs x with
    | none =>
      have HI : Hid (∀ w v, RunsAt w v rs → Calls Try.prog 13 #[v, .int .i64 x] w (End3 [] 0 false w)) := fun w v h => (c_TakeRun_no v rs x w h HSB.out (by have := HL.out; omega) ht).mono fun e w' ⟨he, hb⟩ => ⟨_, he, OwnR.nil _ _, hb⟩
      have HS : Hid (∀ w v, RunsAt w v rs → Calls Try.prog 14 #[v, .int .i64 x] w (End3 [] 0 false w)) := fun w v h => (s_TakeRun_no v rs x w h HSB.out (by have := HL.out; omega) ht).mono fun e w' ⟨he, hb⟩ => ⟨_, he, OwnR.nil _ _, hb⟩
      have HMX : Hid (good 0 rs = true → 1 ≤ x → ¬ x ≤ maxR rs) := fun hg h1 hmx => take_none_max ht hg h1 hmx
      clear ht
      go_wp2_with fail
      refine (HI.out _ _ O_l.out.runs).mono ?_
      rintro e w1 ⟨v_t, rfl, ho, hb⟩
      have hbs := B.out.size
      replace O_l := Lib.hid (O_l.out.below hb)
      replace B := Lib.hid (bst B.out hb B.out.size)
      clear hb
      have O_t := Lib.hid (ho.mono hbs)
      clear ho hbs
      go_wp2_with fail
      refine (HS.out _ _ O_l.out.runs).mono ?_
      rintro e w2 ⟨v_w, rfl, ho, hb⟩
      have hbs := B.out.size
      replace O_l := Lib.hid (O_l.out.below hb)
      replace O_t := Lib.hid (O_t.out.below hb)
      replace B := Lib.hid (bst B.out hb B.out.size)
      clear hb
      have O_w := Lib.hid (ho.mono hbs)
      clear ho hbs
      go_wp2_with fail
      refine (c_sameRuns v_t v_w [] _ O_t.out.runs O_w.out.runs (by simp)).mono ?_
      rintro e w3 ⟨rfl, hb⟩
      replace O_l := Lib.hid (O_l.out.below hb)
      replace O_t := Lib.hid (O_t.out.below hb)
      replace O_w := Lib.hid (O_w.out.below hb)
      replace B := Lib.hid (bst B.out hb B.out.size)
      clear hb
      go_wp2_with fail
      refine (c_GoodRuns v_l rs _ O_l.out.runs HSB.out (by have := HL.out; omega)).mono ?_
      rintro e w4 ⟨rfl, hb⟩
      replace O_l := Lib.hid (O_l.out.below hb)
      replace O_t := Lib.hid (O_t.out.below hb)
      replace O_w := Lib.hid (O_w.out.below hb)
      replace B := Lib.hid (bst B.out hb B.out.size)
      clear hb
      go_wp2_with fail
      refine (s_GoodRuns v_l rs _ O_l.out.runs HSB.out (by have := HL.out; omega)).mono ?_
      rintro e w5 ⟨rfl, hb⟩
      replace O_l := Lib.hid (O_l.out.below hb)
      replace O_t := Lib.hid (O_t.out.below hb)
      replace O_w := Lib.hid (O_w.out.below hb)
      replace B := Lib.hid (bst B.out hb B.out.size)
      clear hb
      have hgg : (good 0 rs != good 0 rs) = false := by simp
      clear HI HS O_t O_w

      cases hg0 : good 0 rs with
      | true =>
        have hgd := hg0
        go_wp2_with fail
        refine (c_LongestIn_yes v_l rs _ O_l.out.runs hg0).mono ?_
        rintro e wl ⟨rfl, hb⟩
        replace O_l := Lib.hid (O_l.out.below hb)
        replace B := Lib.hid (bst B.out hb B.out.size)
        clear hb
        generalize hmxr : maxR rs = mx at *
        by_cases h1 : 1 ≤ x
        · have hmx : ¬ x ≤ mx := by have := HMX.out hg0 h1; omega
          have h1' : x ≥ 1 := h1
          go_wp2_with fail
          refine (c_DrawGiveRun _ zm _ (HM.out.below B.out)).mono ?_
          rintro e wu ⟨vu, us, r, rfl, hri, hul, hus, ho, hb⟩
          obtain ⟨r1, r2⟩ := r
          have hbs := B.out.size
          replace B := Lib.hid (below_up B.out hb)
          have OU := ho.mono hbs
          clear ho hbs hb
          have HRI := Lib.hid hri; have HUS := Lib.hid hus.bnd; have HUL := Lib.hid hul
          clear hri hus hul
          have O_u := Lib.hid (OU.below (below1 wu (.cells (cr (r1, r2)) 33)))
          have R_r := Lib.hid (Row.new wu 33 (cr (r1, r2)))
          replace B := Lib.hid (below_up B.out (below1 wu (.cells (cr (r1, r2)) 33)))
          clear OU
          cases hgv : giveR us (r1, r2) with
          | none =>
            have HI : Hid (∀ w v, RunsAt w v us → Calls Try.prog 18 #[v, rn (r1, r2)] w (End2 [] false w)) := fun w v h => (c_GiveRun_no v us (r1, r2) w h HUS.out HRI.out (by have := HUL.out; omega) hgv).mono fun e w' ⟨he, hb⟩ => ⟨_, he, OwnR.nil _ _, hb⟩
            have HS : Hid (∀ w v, RunsAt w v us → Calls Try.prog 22 #[v, rn (r1, r2)] w (End2 [] false w)) := fun w v h => (s_GiveRun_no v us (r1, r2) w h HUS.out HRI.out (by have := HUL.out; omega) hgv).mono fun e w' ⟨he, hb⟩ => ⟨_, he, OwnR.nil _ _, hb⟩
            clear hgv
            go_wp2_with fail
            refine (HI.out _ _ O_u.out.runs).mono ?_
            rintro e wi ⟨v_g, rfl, ho, hb⟩
            have hbs := B.out.size
            replace O_u := Lib.hid (O_u.out.below hb)
            replace R_r := Lib.hid (Row.below R_r.out hb)
            replace B := Lib.hid (bst B.out hb B.out.size)
            clear hb
            have O_g := Lib.hid (ho.mono hbs)
            clear ho hbs
            have c0 : wi.cell? ⟨wu.heap.size, 0, none⟩ = some (.int .i64 r1) := R_r.out.cell 0
            have c1 : wi.cell? ⟨wu.heap.size, 0 + 1, none⟩ = some (.int .i64 r2) := R_r.out.cell 1
            go_wp2_with fail
            clear c0 c1
            refine (HS.out _ _ O_u.out.runs).mono ?_
            rintro e wj ⟨v_h, rfl, ho, hb⟩
            have hbs := B.out.size
            replace O_u := Lib.hid (O_u.out.below hb)
            replace O_g := Lib.hid (O_g.out.below hb)
            replace R_r := Lib.hid (Row.below R_r.out hb)
            replace B := Lib.hid (bst B.out hb B.out.size)
            clear hb
            have O_h := Lib.hid (ho.mono hbs)
            clear ho hbs
            go_wp2_with fail
            refine (c_sameRuns v_g v_h [] _ O_g.out.runs O_h.out.runs (by simp)).mono ?_
            rintro e wk ⟨rfl, hb⟩
            replace O_u := Lib.hid (O_u.out.below hb)
            replace O_g := Lib.hid (O_g.out.below hb)
            replace O_h := Lib.hid (O_h.out.below hb)
            replace R_r := Lib.hid (Row.below R_r.out hb)
            replace B := Lib.hid (bst B.out hb B.out.size)
            clear hb
            go_wp2
            go_ret
            exact ⟨rfl, B.out⟩
          | some ts =>
            have HI : Hid (∀ w v, RunsAt w v us → Calls Try.prog 18 #[v, rn (r1, r2)] w (End2 ts true w)) := fun w v h => c_GiveRun_yes v us (r1, r2) ts w h hgv
            have HS : Hid (∀ w v, RunsAt w v us → Calls Try.prog 22 #[v, rn (r1, r2)] w (End2 ts true w)) := fun w v h => s_GiveRun_yes v us (r1, r2) ts w h hgv
            have HTG := Lib.hid (giveR_good hgv)
            clear hgv
            go_wp2_with fail
            refine (HI.out _ _ O_u.out.runs).mono ?_
            rintro e wi ⟨v_g, rfl, ho, hb⟩
            have hbs := B.out.size
            replace O_u := Lib.hid (O_u.out.below hb)
            replace R_r := Lib.hid (Row.below R_r.out hb)
            replace B := Lib.hid (bst B.out hb B.out.size)
            clear hb
            have O_g := Lib.hid (ho.mono hbs)
            clear ho hbs
            have c0 : wi.cell? ⟨wu.heap.size, 0, none⟩ = some (.int .i64 r1) := R_r.out.cell 0
            have c1 : wi.cell? ⟨wu.heap.size, 0 + 1, none⟩ = some (.int .i64 r2) := R_r.out.cell 1
            go_wp2_with fail
            clear c0 c1
            refine (HS.out _ _ O_u.out.runs).mono ?_
            rintro e wj ⟨v_h, rfl, ho, hb⟩
            have hbs := B.out.size
            replace O_u := Lib.hid (O_u.out.below hb)
            replace O_g := Lib.hid (O_g.out.below hb)
            replace R_r := Lib.hid (Row.below R_r.out hb)
            replace B := Lib.hid (bst B.out hb B.out.size)
            clear hb
            have O_h := Lib.hid (ho.mono hbs)
            clear ho hbs
            go_wp2_with fail
            refine (c_sameRuns v_g v_h ts _ O_g.out.runs O_h.out.runs (by have := good_len16 HTG.out; omega)).mono ?_
            rintro e wk ⟨rfl, hb⟩
            replace O_u := Lib.hid (O_u.out.below hb)
            replace O_g := Lib.hid (O_g.out.below hb)
            replace O_h := Lib.hid (O_h.out.below hb)
            replace R_r := Lib.hid (Row.below R_r.out hb)
            replace B := Lib.hid (bst B.out hb B.out.size)
            clear hb
            go_wp2_with fail
            have HCG := Lib.hid (c_GoodRuns v_g ts wk O_g.out.runs (Bnd.good HTG.out) (by have := good_len16 HTG.out; omega))
            rw [HTG.out] at HCG
            refine HCG.out.mono ?_
            rintro e wm ⟨rfl, hb⟩
            replace O_u := Lib.hid (O_u.out.below hb)
            replace O_g := Lib.hid (O_g.out.below hb)
            replace O_h := Lib.hid (O_h.out.below hb)
            replace R_r := Lib.hid (Row.below R_r.out hb)
            replace B := Lib.hid (bst B.out hb B.out.size)
            clear hb
            go_wp2
            go_ret
            exact ⟨rfl, B.out⟩
        · have h1' : ¬ x ≥ 1 := by omega
          go_wp2_with fail
          refine (c_DrawGiveRun _ zm _ (HM.out.below B.out)).mono ?_
          rintro e wu ⟨vu, us, r, rfl, hri, hul, hus, ho, hb⟩
          obtain ⟨r1, r2⟩ := r
          have hbs := B.out.size
          replace B := Lib.hid (below_up B.out hb)
          have OU := ho.mono hbs
          clear ho hbs hb
          have HRI := Lib.hid hri; have HUS := Lib.hid hus.bnd; have HUL := Lib.hid hul
          clear hri hus hul
          have O_u := Lib.hid (OU.below (below1 wu (.cells (cr (r1, r2)) 33)))
          have R_r := Lib.hid (Row.new wu 33 (cr (r1, r2)))
          replace B := Lib.hid (below_up B.out (below1 wu (.cells (cr (r1, r2)) 33)))
          clear OU
          cases hgv : giveR us (r1, r2) with
          | none =>
            have HI : Hid (∀ w v, RunsAt w v us → Calls Try.prog 18 #[v, rn (r1, r2)] w (End2 [] false w)) := fun w v h => (c_GiveRun_no v us (r1, r2) w h HUS.out HRI.out (by have := HUL.out; omega) hgv).mono fun e w' ⟨he, hb⟩ => ⟨_, he, OwnR.nil _ _, hb⟩
            have HS : Hid (∀ w v, RunsAt w v us → Calls Try.prog 22 #[v, rn (r1, r2)] w (End2 [] false w)) := fun w v h => (s_GiveRun_no v us (r1, r2) w h HUS.out HRI.out (by have := HUL.out; omega) hgv).mono fun e w' ⟨he, hb⟩ => ⟨_, he, OwnR.nil _ _, hb⟩
            clear hgv
            go_wp2_with fail
            refine (HI.out _ _ O_u.out.runs).mono ?_
            rintro e wi ⟨v_g, rfl, ho, hb⟩
            have hbs := B.out.size
            replace O_u := Lib.hid (O_u.out.below hb)
            replace R_r := Lib.hid (Row.below R_r.out hb)
            replace B := Lib.hid (bst B.out hb B.out.size)
            clear hb
            have O_g := Lib.hid (ho.mono hbs)
            clear ho hbs
            have c0 : wi.cell? ⟨wu.heap.size, 0, none⟩ = some (.int .i64 r1) := R_r.out.cell 0
            have c1 : wi.cell? ⟨wu.heap.size, 0 + 1, none⟩ = some (.int .i64 r2) := R_r.out.cell 1
            go_wp2_with fail
            clear c0 c1
            refine (HS.out _ _ O_u.out.runs).mono ?_
            rintro e wj ⟨v_h, rfl, ho, hb⟩
            have hbs := B.out.size
            replace O_u := Lib.hid (O_u.out.below hb)
            replace O_g := Lib.hid (O_g.out.below hb)
            replace R_r := Lib.hid (Row.below R_r.out hb)
            replace B := Lib.hid (bst B.out hb B.out.size)
            clear hb
            have O_h := Lib.hid (ho.mono hbs)
            clear ho hbs
            go_wp2_with fail
            refine (c_sameRuns v_g v_h [] _ O_g.out.runs O_h.out.runs (by simp)).mono ?_
            rintro e wk ⟨rfl, hb⟩
            replace O_u := Lib.hid (O_u.out.below hb)
            replace O_g := Lib.hid (O_g.out.below hb)
            replace O_h := Lib.hid (O_h.out.below hb)
            replace R_r := Lib.hid (Row.below R_r.out hb)
            replace B := Lib.hid (bst B.out hb B.out.size)
            clear hb
            go_wp2
            go_ret
            exact ⟨rfl, B.out⟩
          | some ts =>
            have HI : Hid (∀ w v, RunsAt w v us → Calls Try.prog 18 #[v, rn (r1, r2)] w (End2 ts true w)) := fun w v h => c_GiveRun_yes v us (r1, r2) ts w h hgv
            have HS : Hid (∀ w v, RunsAt w v us → Calls Try.prog 22 #[v, rn (r1, r2)] w (End2 ts true w)) := fun w v h => s_GiveRun_yes v us (r1, r2) ts w h hgv
            have HTG := Lib.hid (giveR_good hgv)
            clear hgv
            go_wp2_with fail
            refine (HI.out _ _ O_u.out.runs).mono ?_
            rintro e wi ⟨v_g, rfl, ho, hb⟩
            have hbs := B.out.size
            replace O_u := Lib.hid (O_u.out.below hb)
            replace R_r := Lib.hid (Row.below R_r.out hb)
            replace B := Lib.hid (bst B.out hb B.out.size)
            clear hb
            have O_g := Lib.hid (ho.mono hbs)
            clear ho hbs
            have c0 : wi.cell? ⟨wu.heap.size, 0, none⟩ = some (.int .i64 r1) := R_r.out.cell 0
            have c1 : wi.cell? ⟨wu.heap.size, 0 + 1, none⟩ = some (.int .i64 r2) := R_r.out.cell 1
            go_wp2_with fail
            clear c0 c1
            refine (HS.out _ _ O_u.out.runs).mono ?_
            rintro e wj ⟨v_h, rfl, ho, hb⟩
            have hbs := B.out.size
            replace O_u := Lib.hid (O_u.out.below hb)
            replace O_g := Lib.hid (O_g.out.below hb)
            replace R_r := Lib.hid (Row.below R_r.out hb)
            replace B := Lib.hid (bst B.out hb B.out.size)
            clear hb
            have O_h := Lib.hid (ho.mono hbs)
            clear ho hbs
            go_wp2_with fail
            refine (c_sameRuns v_g v_h ts _ O_g.out.runs O_h.out.runs (by have := good_len16 HTG.out; omega)).mono ?_
            rintro e wk ⟨rfl, hb⟩
            replace O_u := Lib.hid (O_u.out.below hb)
            replace O_g := Lib.hid (O_g.out.below hb)
            replace O_h := Lib.hid (O_h.out.below hb)
            replace R_r := Lib.hid (Row.below R_r.out hb)
            replace B := Lib.hid (bst B.out hb B.out.size)
            clear hb
            go_wp2_with fail
            have HCG := Lib.hid (c_GoodRuns v_g ts wk O_g.out.runs (Bnd.good HTG.out) (by have := good_len16 HTG.out; omega))
            rw [HTG.out] at HCG
            refine HCG.out.mono ?_
            rintro e wm ⟨rfl, hb⟩
            replace O_u := Lib.hid (O_u.out.below hb)
            replace O_g := Lib.hid (O_g.out.below hb)
            replace O_h := Lib.hid (O_h.out.below hb)
            replace R_r := Lib.hid (Row.below R_r.out hb)
            replace B := Lib.hid (bst B.out hb B.out.size)
            clear hb
            go_wp2
            go_ret
            exact ⟨rfl, B.out⟩
      | false =>
        go_wp2_with fail
        refine (c_LongestIn_no v_l rs _ O_l.out.runs HSB.out (by have := HL.out; omega) hg0).mono ?_
        rintro e wl ⟨rfl, hb⟩
        replace O_l := Lib.hid (O_l.out.below hb)
        replace B := Lib.hid (bst B.out hb B.out.size)
        clear hb
        go_wp2_with fail
        refine (c_DrawGiveRun _ zm _ (HM.out.below B.out)).mono ?_
        rintro e wu ⟨vu, us, r, rfl, hri, hul, hus, ho, hb⟩
        obtain ⟨r1, r2⟩ := r
        have hbs := B.out.size
        replace B := Lib.hid (below_up B.out hb)
        have OU := ho.mono hbs
        clear ho hbs hb
        have HRI := Lib.hid hri; have HUS := Lib.hid hus.bnd; have HUL := Lib.hid hul
        clear hri hus hul
        have O_u := Lib.hid (OU.below (below1 wu (.cells (cr (r1, r2)) 33)))
        have R_r := Lib.hid (Row.new wu 33 (cr (r1, r2)))
        replace B := Lib.hid (below_up B.out (below1 wu (.cells (cr (r1, r2)) 33)))
        clear OU
        cases hgv : giveR us (r1, r2) with
        | none =>
          have HI : Hid (∀ w v, RunsAt w v us → Calls Try.prog 18 #[v, rn (r1, r2)] w (End2 [] false w)) := fun w v h => (c_GiveRun_no v us (r1, r2) w h HUS.out HRI.out (by have := HUL.out; omega) hgv).mono fun e w' ⟨he, hb⟩ => ⟨_, he, OwnR.nil _ _, hb⟩
          have HS : Hid (∀ w v, RunsAt w v us → Calls Try.prog 22 #[v, rn (r1, r2)] w (End2 [] false w)) := fun w v h => (s_GiveRun_no v us (r1, r2) w h HUS.out HRI.out (by have := HUL.out; omega) hgv).mono fun e w' ⟨he, hb⟩ => ⟨_, he, OwnR.nil _ _, hb⟩
          clear hgv
          go_wp2_with fail
          refine (HI.out _ _ O_u.out.runs).mono ?_
          rintro e wi ⟨v_g, rfl, ho, hb⟩
          have hbs := B.out.size
          replace O_u := Lib.hid (O_u.out.below hb)
          replace R_r := Lib.hid (Row.below R_r.out hb)
          replace B := Lib.hid (bst B.out hb B.out.size)
          clear hb
          have O_g := Lib.hid (ho.mono hbs)
          clear ho hbs
          have c0 : wi.cell? ⟨wu.heap.size, 0, none⟩ = some (.int .i64 r1) := R_r.out.cell 0
          have c1 : wi.cell? ⟨wu.heap.size, 0 + 1, none⟩ = some (.int .i64 r2) := R_r.out.cell 1
          go_wp2_with fail
          clear c0 c1
          refine (HS.out _ _ O_u.out.runs).mono ?_
          rintro e wj ⟨v_h, rfl, ho, hb⟩
          have hbs := B.out.size
          replace O_u := Lib.hid (O_u.out.below hb)
          replace O_g := Lib.hid (O_g.out.below hb)
          replace R_r := Lib.hid (Row.below R_r.out hb)
          replace B := Lib.hid (bst B.out hb B.out.size)
          clear hb
          have O_h := Lib.hid (ho.mono hbs)
          clear ho hbs
          go_wp2_with fail
          refine (c_sameRuns v_g v_h [] _ O_g.out.runs O_h.out.runs (by simp)).mono ?_
          rintro e wk ⟨rfl, hb⟩
          replace O_u := Lib.hid (O_u.out.below hb)
          replace O_g := Lib.hid (O_g.out.below hb)
          replace O_h := Lib.hid (O_h.out.below hb)
          replace R_r := Lib.hid (Row.below R_r.out hb)
          replace B := Lib.hid (bst B.out hb B.out.size)
          clear hb
          go_wp2
          go_ret
          exact ⟨rfl, B.out⟩
        | some ts =>
          have HI : Hid (∀ w v, RunsAt w v us → Calls Try.prog 18 #[v, rn (r1, r2)] w (End2 ts true w)) := fun w v h => c_GiveRun_yes v us (r1, r2) ts w h hgv
          have HS : Hid (∀ w v, RunsAt w v us → Calls Try.prog 22 #[v, rn (r1, r2)] w (End2 ts true w)) := fun w v h => s_GiveRun_yes v us (r1, r2) ts w h hgv
          have HTG := Lib.hid (giveR_good hgv)
          clear hgv
          go_wp2_with fail
          refine (HI.out _ _ O_u.out.runs).mono ?_
          rintro e wi ⟨v_g, rfl, ho, hb⟩
          have hbs := B.out.size
          replace O_u := Lib.hid (O_u.out.below hb)
          replace R_r := Lib.hid (Row.below R_r.out hb)
          replace B := Lib.hid (bst B.out hb B.out.size)
          clear hb
          have O_g := Lib.hid (ho.mono hbs)
          clear ho hbs
          have c0 : wi.cell? ⟨wu.heap.size, 0, none⟩ = some (.int .i64 r1) := R_r.out.cell 0
          have c1 : wi.cell? ⟨wu.heap.size, 0 + 1, none⟩ = some (.int .i64 r2) := R_r.out.cell 1
          go_wp2_with fail
          clear c0 c1
          refine (HS.out _ _ O_u.out.runs).mono ?_
          rintro e wj ⟨v_h, rfl, ho, hb⟩
          have hbs := B.out.size
          replace O_u := Lib.hid (O_u.out.below hb)
          replace O_g := Lib.hid (O_g.out.below hb)
          replace R_r := Lib.hid (Row.below R_r.out hb)
          replace B := Lib.hid (bst B.out hb B.out.size)
          clear hb
          have O_h := Lib.hid (ho.mono hbs)
          clear ho hbs
          go_wp2_with fail
          refine (c_sameRuns v_g v_h ts _ O_g.out.runs O_h.out.runs (by have := good_len16 HTG.out; omega)).mono ?_
          rintro e wk ⟨rfl, hb⟩
          replace O_u := Lib.hid (O_u.out.below hb)
          replace O_g := Lib.hid (O_g.out.below hb)
          replace O_h := Lib.hid (O_h.out.below hb)
          replace R_r := Lib.hid (Row.below R_r.out hb)
          replace B := Lib.hid (bst B.out hb B.out.size)
          clear hb
          go_wp2_with fail
          have HCG := Lib.hid (c_GoodRuns v_g ts wk O_g.out.runs (Bnd.good HTG.out) (by have := good_len16 HTG.out; omega))
          rw [HTG.out] at HCG
          refine HCG.out.mono ?_
          rintro e wm ⟨rfl, hb⟩
          replace O_u := Lib.hid (O_u.out.below hb)
          replace O_g := Lib.hid (O_g.out.below hb)
          replace O_h := Lib.hid (O_h.out.below hb)
          replace R_r := Lib.hid (Row.below R_r.out hb)
          replace B := Lib.hid (bst B.out hb B.out.size)
          clear hb
          go_wp2
          go_ret
          exact ⟨rfl, B.out⟩
    | some y =>
      obtain ⟨ts, p⟩ := y
      have HI : Hid (∀ w v, RunsAt w v rs → Calls Try.prog 13 #[v, .int .i64 x] w (End3 ts p true w)) := fun w v h => c_TakeRun_yes v rs x ts p w h ht
      have HS : Hid (∀ w v, RunsAt w v rs → Calls Try.prog 14 #[v, .int .i64 x] w (End3 ts p true w)) := fun w v h => s_TakeRun_yes v rs x ts p w h ht
      have HTG := Lib.hid (takeR_good ht).1
      have HBK := Lib.hid (take_back ht)
      have HG := Lib.hid (takeR_some ht).1
      have HSU := Lib.hid (take_sum ht)
      have HBE := Lib.hid (take_best ht)
      have hsb := sum_small HTG.out
      have epp : (p != p) = false := by simp
      clear ht
      go_wp2_with fail
      refine (HI.out _ _ O_l.out.runs).mono ?_
      rintro e w1 ⟨v_t, rfl, ho, hb⟩
      have hbs := B.out.size
      replace O_l := Lib.hid (O_l.out.below hb)
      replace B := Lib.hid (bst B.out hb B.out.size)
      clear hb
      have O_t := Lib.hid (ho.mono hbs)
      clear ho hbs
      go_wp2_with fail
      refine (HS.out _ _ O_l.out.runs).mono ?_
      rintro e w2 ⟨v_w, rfl, ho, hb⟩
      have hbs := B.out.size
      replace O_l := Lib.hid (O_l.out.below hb)
      replace O_t := Lib.hid (O_t.out.below hb)
      replace B := Lib.hid (bst B.out hb B.out.size)
      clear hb
      have O_w := Lib.hid (ho.mono hbs)
      clear ho hbs
      go_wp2_with fail
      refine (c_sameRuns v_t v_w ts _ O_t.out.runs O_w.out.runs (by have := good_len16 HTG.out; omega)).mono ?_
      rintro e w3 ⟨rfl, hb⟩
      replace O_l := Lib.hid (O_l.out.below hb)
      replace O_t := Lib.hid (O_t.out.below hb)
      replace O_w := Lib.hid (O_w.out.below hb)
      replace B := Lib.hid (bst B.out hb B.out.size)
      clear hb
      go_wp2_with fail
      refine (c_GoodRuns v_l rs _ O_l.out.runs HSB.out (by have := HL.out; omega)).mono ?_
      rintro e w4 ⟨rfl, hb⟩
      replace O_l := Lib.hid (O_l.out.below hb)
      replace O_t := Lib.hid (O_t.out.below hb)
      replace O_w := Lib.hid (O_w.out.below hb)
      replace B := Lib.hid (bst B.out hb B.out.size)
      clear hb
      go_wp2_with fail
      refine (s_GoodRuns v_l rs _ O_l.out.runs HSB.out (by have := HL.out; omega)).mono ?_
      rintro e w5 ⟨rfl, hb⟩
      replace O_l := Lib.hid (O_l.out.below hb)
      replace O_t := Lib.hid (O_t.out.below hb)
      replace O_w := Lib.hid (O_w.out.below hb)
      replace B := Lib.hid (bst B.out hb B.out.size)
      clear hb
      have hgg : (good 0 rs != good 0 rs) = false := by simp
      clear HI HS O_w
      go_wp2_with fail
      refine (c_GiveRun_yes v_t ts (p, x) rs _ O_t.out.runs HBK.out).mono ?_
      rintro e w6 ⟨v_g, rfl, ho, hb⟩
      have hbs := B.out.size
      replace O_l := Lib.hid (O_l.out.below hb)
      replace O_t := Lib.hid (O_t.out.below hb)
      replace B := Lib.hid (bst B.out hb B.out.size)
      clear hb
      have O_g := Lib.hid (ho.mono hbs)
      clear ho hbs
      go_wp2_with fail
      refine (c_FreeIn_yes v_l rs _ O_l.out.runs HG.out).mono ?_
      rintro e w7 ⟨rfl, hb⟩
      replace O_l := Lib.hid (O_l.out.below hb)
      replace O_t := Lib.hid (O_t.out.below hb)
      replace O_g := Lib.hid (O_g.out.below hb)
      replace B := Lib.hid (bst B.out hb B.out.size)
      clear hb
      go_wp2_with fail
      refine (c_FreeIn_yes v_t ts _ O_t.out.runs HTG.out).mono ?_
      rintro e w8 ⟨rfl, hb⟩
      replace O_l := Lib.hid (O_l.out.below hb)
      replace O_t := Lib.hid (O_t.out.below hb)
      replace O_g := Lib.hid (O_g.out.below hb)
      replace B := Lib.hid (bst B.out hb B.out.size)
      clear hb
      go_wp2_with fail
      have HCG := Lib.hid (c_GoodRuns v_t ts w8 O_t.out.runs (Bnd.good HTG.out) (by have := good_len16 HTG.out; omega))
      rw [HTG.out] at HCG
      refine HCG.out.mono ?_
      rintro e w9 ⟨rfl, hb⟩
      replace O_l := Lib.hid (O_l.out.below hb)
      replace O_t := Lib.hid (O_t.out.below hb)
      replace O_g := Lib.hid (O_g.out.below hb)
      replace B := Lib.hid (bst B.out hb B.out.size)
      clear hb
      go_wp2_with fail
      refine (c_sameRuns v_g v_l rs _ O_g.out.runs O_l.out.runs (by have := HL.out; omega)).mono ?_
      rintro e w10 ⟨rfl, hb⟩
      replace O_l := Lib.hid (O_l.out.below hb)
      replace O_t := Lib.hid (O_t.out.below hb)
      replace O_g := Lib.hid (O_g.out.below hb)
      replace B := Lib.hid (bst B.out hb B.out.size)
      clear hb
      clear O_t O_g HCG
      have hsum : (sumR rs != sumR ts + x) = false := by rw [bne_eq_false_iff_eq]; exact HSU.out.symm
      generalize sumR rs = sr at *
      generalize sumR ts = st at *
      obtain ⟨al, cl, hvl, hLC⟩ := id O_l.out.runs
      subst hvl
      have HLL : Hid (rs.length = rs.length) := rfl
      have HB10 := B; have HOL10 := O_l
      have hl16 := HL.out
      generalize hnl : rs.length = nl at *
      have HNL := Lib.hid hnl; clear hnl HLL
      have HLC0 := Lib.hid hLC; clear hLC B O_l
      go_wp2
      go_loopw [126] (fun i wr => ∃ k : Nat, k ≤ nl ∧ i = .int .i64 k ∧ Below w10.heap.size w10 wr) (fun i _ => nl - (intOf i).toNat)
      case atStart => exact ⟨0, Nat.zero_le _, rfl, Below.refl _ _⟩
      case round =>
        obtain ⟨k, hk, rfl, hbr⟩ := hrel
        by_cases hlt : k < nl
        · obtain ⟨bl0, ol0, rfl, hcc⟩ := HLC0.out (by omega)
          have HLC : Hid (∀ i, i < nl → w10.cell? ⟨bl0, ol0 + i * 2, none⟩ = some (.int .i64 (rs.getD i (0, 0)).1) ∧ w10.cell? ⟨bl0, ol0 + i * 2 + 1, none⟩ = some (.int .i64 (rs.getD i (0, 0)).2)) := hcc
          obtain ⟨p0, p1⟩ := hcc k hlt
          have y0 := cellBelow' hbr p0
          have y1 := cellBelow' hbr p1
          clear p0 p1 hcc
          have hkl : k < rs.length := by rw [HNL.out]; exact hlt
          have hbe := HBE.out (rs.getD k (0, 0)) (getD_mem hkl)
          have i1 : (k : Int) < (nl : Int) := by omega
          generalize rs.getD k (0, 0) = z at y0 y1 hbe
          obtain ⟨z1, z2⟩ := z
          simp only [] at y0 y1 hbe
          have HB2 := Lib.hid (below_up hbr (below1 wr (.cells (cr (z1, z2)) 33)))
          have HR2 := Lib.hid (Row.new wr 33 (cr (z1, z2)))
          clear hbr hkl
          by_cases e : z1 = p
          · have ee : (z1 == p) = true := by simpa using e
            have HMIN : Hid (∀ m, m < nl → x ≤ (rs.getD m (0, 0)).2 → z2 ≤ (rs.getD m (0, 0)).2) := fun m hm hx => hbe e _ (getD_mem (by rw [HNL.out]; exact hm)) hx
            clear e hbe
            go_wp2
            generalize wr.heap.size = g1 at *
            go_loopw [136] (fun i wr => ∃ m : Nat, m ≤ nl ∧ i = .int .i64 m ∧ Row wr g1 33 (cr (z1, z2)) ∧ Below w10.heap.size w10 wr) (fun i _ => nl - (intOf i).toNat)
            case atStart => exact ⟨0, Nat.zero_le _, rfl, HR2.out, HB2.out⟩
            case round =>
              obtain ⟨m, hm, rfl, hrow, hbr2⟩ := hrel
              by_cases hlt2 : m < nl
              · obtain ⟨p0, p1⟩ := HLC.out m hlt2
                have y0 := cellBelow' hbr2 p0
                have y1 := cellBelow' hbr2 p1
                clear p0 p1
                have hbe2 := HMIN.out m hlt2
                have HB3 := Lib.hid (below_up hbr2 (below1 wr (.cells (cr ((rs.getD m (0, 0)).1, (rs.getD m (0, 0)).2)) 33)))
                have HR3 := Lib.hid (Row.alloc hrow (.cells (cr ((rs.getD m (0, 0)).1, (rs.getD m (0, 0)).2)) 33))
                generalize rs.getD m (0, 0) = q at y0 y1 hbe2 HB3 HR3
                obtain ⟨q1', q2'⟩ := q
                simp only [] at y0 y1 hbe2 HB3 HR3
                have t0 : (wr.alloc (.cells #[.int .i64 q1', .int .i64 q2'] 33)).cell? ⟨g1, 0, none⟩ = some (.int .i64 z1) := HR3.out.cell 0
                have t1 : (wr.alloc (.cells #[.int .i64 q1', .int .i64 q2'] 33)).cell? ⟨g1, 0 + 1, none⟩ = some (.int .i64 z2) := HR3.out.cell 1
                have k1 : (m : Int) < (nl : Int) := by omega
                clear hrow hbr2
                by_cases d1 : x ≤ q2'
                · have d2 : ¬ q2' < z2 := by have := hbe2 d1; omega
                  have d1' : q2' ≥ x := d1
                  go_wp2
                  go_roundw
                  case rel => exact ⟨m + 1, by omega, by go_num, HR3.out, HB3.out⟩
                  case measure => simp [intOf]; omega
                · have d1' : ¬ q2' ≥ x := by omega
                  go_wp2
                  go_roundw
                  case rel => exact ⟨m + 1, by omega, by go_num, HR3.out, HB3.out⟩
                  case measure => simp [intOf]; omega
              · obtain rfl : m = nl := by omega
                go_wp2
                go_roundw
                case rel => exact ⟨k + 1, by omega, by go_num, hbr2⟩
                case measure => simp [intOf]; omega
          · have ee : (z1 == p) = false := by simpa using e
            clear e hbe
            go_wp2
            go_roundw
            case rel => exact ⟨k + 1, by omega, by go_num, HB2.out⟩
            case measure => simp [intOf]; omega
        · have B := Lib.hid (below_up HB10.out hbr)
          have O_l := Lib.hid (HOL10.out.below hbr)
          clear hbr
          go_wp2_with fail
          refine (c_LongestIn_yes _ rs _ O_l.out.runs HG.out).mono ?_
          rintro e wl ⟨rfl, hb⟩
          replace O_l := Lib.hid (O_l.out.below hb)
          replace B := Lib.hid (bst B.out hb B.out.size)
          clear hb
          go_wp2_with fail
          refine (c_DrawGiveRun _ zm _ (HM.out.below B.out)).mono ?_
          rintro e wu ⟨vu, us, r, rfl, hri, hul, hus, ho, hb⟩
          obtain ⟨r1, r2⟩ := r
          have hbs := B.out.size
          replace B := Lib.hid (below_up B.out hb)
          have OU := ho.mono hbs
          clear ho hbs hb
          have HRI := Lib.hid hri; have HUS := Lib.hid hus.bnd; have HUL := Lib.hid hul
          clear hri hus hul
          have O_u := Lib.hid (OU.below (below1 wu (.cells (cr (r1, r2)) 33)))
          have R_r := Lib.hid (Row.new wu 33 (cr (r1, r2)))
          replace B := Lib.hid (below_up B.out (below1 wu (.cells (cr (r1, r2)) 33)))
          clear OU
          cases hgv : giveR us (r1, r2) with
          | none =>
            have HI : Hid (∀ w v, RunsAt w v us → Calls Try.prog 18 #[v, rn (r1, r2)] w (End2 [] false w)) := fun w v h => (c_GiveRun_no v us (r1, r2) w h HUS.out HRI.out (by have := HUL.out; omega) hgv).mono fun e w' ⟨he, hb⟩ => ⟨_, he, OwnR.nil _ _, hb⟩
            have HS : Hid (∀ w v, RunsAt w v us → Calls Try.prog 22 #[v, rn (r1, r2)] w (End2 [] false w)) := fun w v h => (s_GiveRun_no v us (r1, r2) w h HUS.out HRI.out (by have := HUL.out; omega) hgv).mono fun e w' ⟨he, hb⟩ => ⟨_, he, OwnR.nil _ _, hb⟩
            clear hgv
            go_wp2_with fail
            refine (HI.out _ _ O_u.out.runs).mono ?_
            rintro e wi ⟨v_g, rfl, ho, hb⟩
            have hbs := B.out.size
            replace O_u := Lib.hid (O_u.out.below hb)
            replace R_r := Lib.hid (Row.below R_r.out hb)
            replace B := Lib.hid (bst B.out hb B.out.size)
            clear hb
            have O_g := Lib.hid (ho.mono hbs)
            clear ho hbs
            have c0 : wi.cell? ⟨wu.heap.size, 0, none⟩ = some (.int .i64 r1) := R_r.out.cell 0
            have c1 : wi.cell? ⟨wu.heap.size, 0 + 1, none⟩ = some (.int .i64 r2) := R_r.out.cell 1
            go_wp2_with fail
            clear c0 c1
            refine (HS.out _ _ O_u.out.runs).mono ?_
            rintro e wj ⟨v_h, rfl, ho, hb⟩
            have hbs := B.out.size
            replace O_u := Lib.hid (O_u.out.below hb)
            replace O_g := Lib.hid (O_g.out.below hb)
            replace R_r := Lib.hid (Row.below R_r.out hb)
            replace B := Lib.hid (bst B.out hb B.out.size)
            clear hb
            have O_h := Lib.hid (ho.mono hbs)
            clear ho hbs
            go_wp2_with fail
            refine (c_sameRuns v_g v_h [] _ O_g.out.runs O_h.out.runs (by simp)).mono ?_
            rintro e wk ⟨rfl, hb⟩
            replace O_u := Lib.hid (O_u.out.below hb)
            replace O_g := Lib.hid (O_g.out.below hb)
            replace O_h := Lib.hid (O_h.out.below hb)
            replace R_r := Lib.hid (Row.below R_r.out hb)
            replace B := Lib.hid (bst B.out hb B.out.size)
            clear hb
            go_wp2
            go_ret
            exact ⟨rfl, B.out⟩
          | some ts =>
            have HI : Hid (∀ w v, RunsAt w v us → Calls Try.prog 18 #[v, rn (r1, r2)] w (End2 ts true w)) := fun w v h => c_GiveRun_yes v us (r1, r2) ts w h hgv
            have HS : Hid (∀ w v, RunsAt w v us → Calls Try.prog 22 #[v, rn (r1, r2)] w (End2 ts true w)) := fun w v h => s_GiveRun_yes v us (r1, r2) ts w h hgv
            have HTG := Lib.hid (giveR_good hgv)
            clear hgv
            go_wp2_with fail
            refine (HI.out _ _ O_u.out.runs).mono ?_
            rintro e wi ⟨v_g, rfl, ho, hb⟩
            have hbs := B.out.size
            replace O_u := Lib.hid (O_u.out.below hb)
            replace R_r := Lib.hid (Row.below R_r.out hb)
            replace B := Lib.hid (bst B.out hb B.out.size)
            clear hb
            have O_g := Lib.hid (ho.mono hbs)
            clear ho hbs
            have c0 : wi.cell? ⟨wu.heap.size, 0, none⟩ = some (.int .i64 r1) := R_r.out.cell 0
            have c1 : wi.cell? ⟨wu.heap.size, 0 + 1, none⟩ = some (.int .i64 r2) := R_r.out.cell 1
            go_wp2_with fail
            clear c0 c1
            refine (HS.out _ _ O_u.out.runs).mono ?_
            rintro e wj ⟨v_h, rfl, ho, hb⟩
            have hbs := B.out.size
            replace O_u := Lib.hid (O_u.out.below hb)
            replace O_g := Lib.hid (O_g.out.below hb)
            replace R_r := Lib.hid (Row.below R_r.out hb)
            replace B := Lib.hid (bst B.out hb B.out.size)
            clear hb
            have O_h := Lib.hid (ho.mono hbs)
            clear ho hbs
            go_wp2_with fail
            refine (c_sameRuns v_g v_h ts _ O_g.out.runs O_h.out.runs (by have := good_len16 HTG.out; omega)).mono ?_
            rintro e wk ⟨rfl, hb⟩
            replace O_u := Lib.hid (O_u.out.below hb)
            replace O_g := Lib.hid (O_g.out.below hb)
            replace O_h := Lib.hid (O_h.out.below hb)
            replace R_r := Lib.hid (Row.below R_r.out hb)
            replace B := Lib.hid (bst B.out hb B.out.size)
            clear hb
            go_wp2_with fail
            have HCG := Lib.hid (c_GoodRuns v_g ts wk O_g.out.runs (Bnd.good HTG.out) (by have := good_len16 HTG.out; omega))
            rw [HTG.out] at HCG
            refine HCG.out.mono ?_
            rintro e wm ⟨rfl, hb⟩
            replace O_u := Lib.hid (O_u.out.below hb)
            replace O_g := Lib.hid (O_g.out.below hb)
            replace O_h := Lib.hid (O_h.out.below hb)
            replace R_r := Lib.hid (Row.below R_r.out hb)
            replace B := Lib.hid (bst B.out hb B.out.size)
            clear hb
            go_wp2
            go_ret
            exact ⟨rfl, B.out⟩
end Go.Proofs.Ytdiejmebodpjeaa
