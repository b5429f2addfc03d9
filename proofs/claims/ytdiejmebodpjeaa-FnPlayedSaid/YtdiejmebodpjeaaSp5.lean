/- GiveRun, the reference's. -/
import Derived.Test.YtdiejmebodpjeaaSp4
namespace Go.Proofs.Ytdiejmebodpjeaa.Pr
theorem good_one (r : R) : good 0 [r] = okR r := by
  rw [good_cons, good_nil, Bool.and_true]
  unfold okR
  cases decide (0 ≤ r.1) <;> simp
theorem meets_page {rs : List R} {r : R} (hg : good 0 rs = true) (hr : okR r = true) (h : meetsR rs r = true) : ∃ q : Nat, r.1 ≤ (q : Int) ∧ (q : Int) < r.1 + r.2 ∧ pgB rs q = true := by
  obtain ⟨x, hx, h1, h2⟩ := meetsR_true h
  have ho := (okR_iff _).1 hr
  have hxo := (okR_iff _).1 (good_mem hg x hx).1
  by_cases c : x.1 ≤ r.1
  · exact ⟨r.1.toNat, by omega, by omega, (pgB_iff _ _).2 ⟨x, hx, by omega, by omega⟩⟩
  · exact ⟨x.1.toNat, by omega, by omega, (pgB_iff _ _).2 ⟨x, hx, by omega, by omega⟩⟩
theorem page_meets {rs : List R} {r : R} {q : Nat} (h1 : r.1 ≤ (q : Int)) (h2 : (q : Int) < r.1 + r.2) (h : pgB rs q = true) : meetsR rs r = true := by
  obtain ⟨x, hx, h3, h4⟩ := (pgB_iff _ _).1 h
  unfold meetsR
  rw [List.any_eq_true]
  exact ⟨x, hx, by simp; omega⟩
theorem give_runs {rs : List R} {a1 a2 : Nat} (hg : good 0 rs = true) (hr : okR ((a1 : Int), (a2 : Int)) = true) (hm : meetsR rs ((a1 : Int), (a2 : Int)) = false) : runsOf (fun p => pgB rs p || (decide (a1 ≤ p) && decide (p < a1 + a2))) 32 = giveL rs ((a1 : Int), (a2 : Int)) := by
  obtain ⟨h1, h2⟩ := giveL_spec hg hr hm
  refine runsOf_eq h1 fun p hp => ?_
  rw [h2]
  simp only [Bool.or_eq_true, Bool.and_eq_true, decide_eq_true_eq, pgB_iff]
  constructor
  · rintro (h | h)
    · exact .inl h
    · exact .inr (by omega)
  · rintro (h | h)
    · exact .inl h
    · exact .inr (by omega)
end Go.Proofs.Ytdiejmebodpjeaa.Pr
namespace Go.Proofs.Ytdiejmebodpjeaa
open Go.RowKit Go.Maps Go.Sort Pr

/-- One run, in a row of its own. -/
theorem runs_one (w : World) (r1 r2 : Int) : RunsAt (w.alloc (.cells #[.int .i64 r1, .int .i64 r2] 33)) (.slice (some ⟨w.heap.size, 0, none⟩) 1 1) [(r1, r2)] := by
  have R := Row.new w 33 #[.int .i64 r1, .int .i64 r2]
  refine ⟨_, 1, rfl, fun _ => ⟨w.heap.size, 0, rfl, fun i hi => ?_⟩⟩
  obtain rfl : i = 0 := by simp at hi; omega
  exact ⟨R.cell 0, R.cell 1⟩

set_option maxRecDepth 100000 in
set_option maxHeartbeats 3200000 in
theorem s_GiveRun_no (v : Value) (rs : List (Int × Int)) (r : Int × Int) (w : World) (hA : RunsAt w v rs) (hI : Bnd rs) (hr : i64R r) (hm : rs.length ≤ 1048576) (ht : giveR rs r = none) :
    Calls Try.prog 22 #[v, rn r] w fun e w' => e = .returned (.tuple #[.slice none 0 0, .bool false]) ∧ Below w.heap.size w w' := by
  obtain ⟨r1, r2⟩ := r
  have HC : Hid (∀ w : World, RunsAt w v rs → Calls Try.prog 17 #[v] w fun e w' => e = .returned (.bool (good 0 rs)) ∧ Below w.heap.size w w') := fun w h => s_GoodRuns v rs w h hI (by omega)
  have HP : Hid (∀ (w : World) (v : Value), RunsAt w v [(r1, r2)] → Calls Try.prog 17 #[v] w fun e w' => e = .returned (.bool (okR (r1, r2))) ∧ Below w.heap.size w w') := fun w v h => by rw [← good_one]; exact s_GoodRuns v [(r1, r2)] w h (fun x hx => by simp at hx; subst hx; exact hr) (by simp)
  have HA := Lib.hid (hA.below (below1 w (.cells (cr (r1, r2)) 33)))
  have HB0 := Lib.hid (below1 w (.cells (cr (r1, r2)) 33))
  have HR0 := Lib.hid (Row.new w 33 (cr (r1, r2)))
  cases hg : good 0 rs with
  | false =>
    rw [hg] at HC
    clear hA hI ht hg hr
    go_enter Try.func22, Try.ntmps22
    go_wp2_with (go_at_call 17; refine (HC.out _ HA.out).mono ?_; rintro e w6 ⟨rfl, hbk⟩; have HB6 := Lib.hid (bst HB0.out hbk HB0.out.size); clear hbk)
    go_ret2
    exact ⟨rfl, HB6.out⟩
  | true =>
    rw [hg] at HC
    cases hok : okR (r1, r2) with
    | false =>
      rw [hok] at HP
      clear hA hI ht hg hr hok
      go_enter Try.func22, Try.ntmps22
      go_wp2_with (first
        | (go_at_call 17; refine (HP.out _ _ (runs_one w6 r1 r2)).mono ?_; rintro e w7 ⟨rfl, hbk⟩; have hb7 := bst (below1 w6 (.cells #[.int .i64 r1, .int .i64 r2] 33)) hbk (by simp); have HR7 := Lib.hid (HR6.out.below hb7); have HB7 := Lib.hid (bst HB6.out hb7 HB6.out.size); clear hbk hb7 c0 c1)
        | (go_at_call 17; refine (HC.out _ HA.out).mono ?_; rintro e w6 ⟨rfl, hbk⟩; have R6 := HR0.out.below hbk; have c0 : w6.cell? ⟨w.heap.size, 0, none⟩ = some (.int .i64 r1) := R6.cell 0; have c1 : w6.cell? ⟨w.heap.size, 0 + 1, none⟩ = some (.int .i64 r2) := R6.cell 1; have HB6 := Lib.hid (bst HB0.out hbk HB0.out.size); have HR6 := Lib.hid R6; clear hbk R6))
      go_ret2
      exact ⟨rfl, HB7.out⟩
    | true =>
      have hmt : meetsR rs (r1, r2) = true := by
        unfold giveR at ht
        cases e : meetsR rs (r1, r2) with
        | true => rfl
        | false => rw [if_pos ⟨hg, hok, e⟩] at ht; cases ht
      rw [hok] at HP
      have HF : Hid (∀ w : World, RunsAt w v rs → Calls Try.prog 53 #[v] w fun e w' => e = .returned (.slice (some ⟨w.heap.size, 0, none⟩) 32 32) ∧ OwnB w' w.heap.size w.heap.size (bl (pgB rs)) ∧ Below w.heap.size w w') := fun w h => s_l3Pages v rs w h hg
      obtain ⟨pq, hp1, hp2, hp3⟩ := meets_page hg hok hmt
      have hro := (okR_iff _).1 hok
      simp only [] at hro hp1 hp2
      obtain ⟨a1, rfl⟩ : ∃ a1 : Nat, r1 = a1 := ⟨r1.toNat, by omega⟩
      obtain ⟨a2, rfl⟩ : ∃ a2 : Nat, r2 = a2 := ⟨r2.toNat, by omega⟩
      have HPQ : Hid (a1 ≤ pq ∧ pq < a1 + a2 ∧ pgB rs pq = true) := ⟨by omega, by omega, hp3⟩
      have HA' := Lib.hid hA
      clear hA hI ht hg hr hok hmt hp1 hp2 hp3
      go_enter Try.func22, Try.ntmps22
      go_wp2_with (first
        | (go_at_call 17; refine (HP.out _ _ (runs_one w6 a1 a2)).mono ?_; rintro e w7 ⟨rfl, hbk⟩; have hb7 := bst (below1 w6 (.cells #[.int .i64 (a1 : Int), .int .i64 (a2 : Int)] 33)) hbk (by simp); have HR7 := Lib.hid (HR6.out.below hb7); have HB7 := Lib.hid (bst HB6.out hb7 HB6.out.size); clear hbk hb7 c0 c1)
        | (go_at_call 17; refine (HC.out _ HA.out).mono ?_; rintro e w6 ⟨rfl, hbk⟩; have R6 := HR0.out.below hbk; have c0 : w6.cell? ⟨w.heap.size, 0, none⟩ = some (.int .i64 (a1 : Int)) := R6.cell 0; have c1 : w6.cell? ⟨w.heap.size, 0 + 1, none⟩ = some (.int .i64 (a2 : Int)) := R6.cell 1; have HB6 := Lib.hid (bst HB0.out hbk HB0.out.size); have HR6 := Lib.hid R6; clear hbk R6)
        | (go_at_call 53; refine (HF.out w7 (HA'.out.below HB7.out)).mono ?_; rintro e w8 ⟨rfl, ho8, hb8⟩; have R8 := HR7.out.below hb8; have d0 : w8.cell? ⟨w.heap.size, 0, none⟩ = some (.int .i64 (a1 : Int)) := R8.cell 0; have d1 : w8.cell? ⟨w.heap.size, 0 + 1, none⟩ = some (.int .i64 (a2 : Int)) := R8.cell 1; have HR8 := Lib.hid R8; have HO8 := Lib.hid (ho8.mono HB7.out.size); have HB8 := Lib.hid (bst HB7.out hb8 HB7.out.size); clear ho8 hb8 R8))
      clear d0 d1
      have hgf : w.heap.size ≤ w7.heap.size ∧ w.heap.size ≠ w7.heap.size := ⟨HB7.out.size, by have := HR7.out.lt; omega⟩
      generalize w7.heap.size = gf at *
      go_loopw [7] (fun x wr => ∃ q : Nat, a1 ≤ q ∧ q ≤ a1 + a2 ∧ x = .int .i64 q ∧ OwnB wr w.heap.size gf (bl fun p => pgB rs p || (decide (a1 ≤ p) && decide (p < q))) ∧ Row wr w.heap.size 33 (cr (a1, a2)) ∧ Hid (∀ p, a1 ≤ p → p < q → pgB rs p = false) ∧ Below w.heap.size w wr) (fun x _ => a1 + a2 - (intOf x).toNat)
      case atStart => exact ⟨a1, Nat.le_refl _, by omega, rfl, by rw [bl_congr (g := pgB rs) (fun p _ => by simp; omega)]; exact HO8.out, HR8.out, (fun p h1 h2 => by omega), HB8.out⟩
      case round =>
        obtain ⟨q, hq1, hq2, rfl, hown, hrow, hno, hbr⟩ := hrel
        have c0 : wr.cell? ⟨w.heap.size, 0, none⟩ = some (.int .i64 a1) := hrow.cell 0
        have c1 : wr.cell? ⟨w.heap.size, 0 + 1, none⟩ = some (.int .i64 a2) := hrow.cell 1
        by_cases hlt2 : q < a1 + a2
        · obtain ⟨d0, d1⟩ := hown.cell (p := q) (by omega)
          have hd : (pgB rs q || (decide (a1 ≤ q) && decide (q < q))) = pgB rs q := by simp
          rw [hd] at d0
          have j1 : (q : Int) < (a1 : Int) + (a2 : Int) := by omega
          have j2 : (q : Int) < 32 := by omega
          clear hd
          cases hb : pgB rs q with
          | true =>
            rw [hb] at d0
            clear hown hno hb
            go_wp2
            go_ret2
            exact ⟨rfl, hbr⟩
          | false =>
            rw [hb] at d0
            have HNO : Hid (∀ p, a1 ≤ p → p < q + 1 → pgB rs p = false) := fun p h1 h2 => by
              by_cases e : p = q
              · rw [e]; exact hb
              · exact hno.out p h1 (by omega)
            obtain ⟨s1, s2⟩ := hown.stored q true
            have S1 := Lib.hid s1
            have SB := Lib.hid (hbr.grown s2 hbr.size (fun j hj => by cases hj; exact hgf.1))
            have SR := Lib.hid (Row.grownBy hrow s2 (by intro e; cases e; omega))
            clear s1 s2 hown hrow hbr hb
            go_wp2
            go_roundw
            case rel => exact ⟨q + 1, by omega, by omega, by go_num, by rw [bl_congr (g := fun p => if p = q then true else pgB rs p || (decide (a1 ≤ p) && decide (p < q))) (fun p _ => by by_cases e : p = q; (subst e; simp; omega); (have e1 : decide (p < q + 1) = decide (p < q) := by apply decide_eq_decide.2; omega); simp [e, e1])]; exact S1.out, SR.out, HNO.out, SB.out⟩
            case measure => simp [intOf]; omega
        · obtain rfl : q = a1 + a2 := by omega
          have j1 : ¬ ((a1 + a2 : Nat) : Int) < (a1 : Int) + (a2 : Int) := by omega
          obtain ⟨x1, x2, x3⟩ := HPQ.out
          have := hno.out pq x1 x2
          rw [x3] at this
          cases this

set_option maxRecDepth 100000 in
set_option maxHeartbeats 3200000 in
theorem s_GiveRun_yes (v : Value) (rs : List (Int × Int)) (r : Int × Int) (ts : List (Int × Int)) (w : World) (hA : RunsAt w v rs) (ht : giveR rs r = some ts) :
    Calls Try.prog 22 #[v, rn r] w fun e w' => ∃ v', e = .returned (.tuple #[v', .bool true]) ∧ OwnR w' w.heap.size v' ts ∧ Below w.heap.size w w' := by
  obtain ⟨hg, hok, hme, rfl⟩ := giveR_some ht
  obtain ⟨r1, r2⟩ := r
  have hro := (okR_iff _).1 hok
  simp only [] at hro
  obtain ⟨a1, rfl⟩ : ∃ a1 : Nat, r1 = a1 := ⟨r1.toNat, by omega⟩
  obtain ⟨a2, rfl⟩ : ∃ a2 : Nat, r2 = a2 := ⟨r2.toNat, by omega⟩
  have hlen := good_len16 hg
  have hr : i64R ((a1 : Int), (a2 : Int)) := by unfold i64R; simp only []; omega
  have HC : Hid (∀ w : World, RunsAt w v rs → Calls Try.prog 17 #[v] w fun e w' => e = .returned (.bool true) ∧ Below w.heap.size w w') := fun w h => by rw [← hg]; exact s_GoodRuns v rs w h (Bnd.good hg) (by omega)
  have HP : Hid (∀ (w : World) (v : Value), RunsAt w v [((a1 : Int), (a2 : Int))] → Calls Try.prog 17 #[v] w fun e w' => e = .returned (.bool true) ∧ Below w.heap.size w w') := fun w v h => by rw [← hok, ← good_one]; exact s_GoodRuns v _ w h (fun x hx => by simp at hx; subst hx; exact hr) (by simp)
  have HA := Lib.hid (hA.below (below1 w (.cells (cr (a1, a2)) 33)))
  have HB0 := Lib.hid (below1 w (.cells (cr (a1, a2)) 33))
  have HR0 := Lib.hid (Row.new w 33 (cr (a1, a2)))
  have HF : Hid (∀ w : World, RunsAt w v rs → Calls Try.prog 53 #[v] w fun e w' => e = .returned (.slice (some ⟨w.heap.size, 0, none⟩) 32 32) ∧ OwnB w' w.heap.size w.heap.size (bl (pgB rs)) ∧ Below w.heap.size w w') := fun w h => s_l3Pages v rs w h hg
  have HPG : Hid (∀ q : Nat, a1 ≤ q → q < a1 + a2 → ¬ pgB rs q = true) := fun q h1 h2 h3 => by
    have := page_meets (r := ((a1 : Int), (a2 : Int))) (by simp only []; omega) (by simp only []; omega) h3
    rw [hme] at this
    cases this
  have HGR := Lib.hid (give_runs hg hok hme)
  have HA' := Lib.hid hA
  clear hA ht hg hr hok hme
  generalize giveL rs ((a1 : Int), (a2 : Int)) = ts at *
  go_enter Try.func22, Try.ntmps22
  go_wp2_with (first
    | (go_at_call 17; refine (HP.out _ _ (runs_one w6 a1 a2)).mono ?_; rintro e w7 ⟨rfl, hbk⟩; have hb7 := bst (below1 w6 (.cells #[.int .i64 (a1 : Int), .int .i64 (a2 : Int)] 33)) hbk (by simp); have HR7 := Lib.hid (HR6.out.below hb7); have HB7 := Lib.hid (bst HB6.out hb7 HB6.out.size); clear hbk hb7 c0 c1)
    | (go_at_call 17; refine (HC.out _ HA.out).mono ?_; rintro e w6 ⟨rfl, hbk⟩; have R6 := HR0.out.below hbk; have c0 : w6.cell? ⟨w.heap.size, 0, none⟩ = some (.int .i64 (a1 : Int)) := R6.cell 0; have c1 : w6.cell? ⟨w.heap.size, 0 + 1, none⟩ = some (.int .i64 (a2 : Int)) := R6.cell 1; have HB6 := Lib.hid (bst HB0.out hbk HB0.out.size); have HR6 := Lib.hid R6; clear hbk R6)
    | (go_at_call 53; refine (HF.out w7 (HA'.out.below HB7.out)).mono ?_; rintro e w8 ⟨rfl, ho8, hb8⟩; have R8 := HR7.out.below hb8; have d0 : w8.cell? ⟨w.heap.size, 0, none⟩ = some (.int .i64 (a1 : Int)) := R8.cell 0; have d1 : w8.cell? ⟨w.heap.size, 0 + 1, none⟩ = some (.int .i64 (a2 : Int)) := R8.cell 1; have HR8 := Lib.hid R8; have HO8 := Lib.hid (ho8.mono HB7.out.size); have HB8 := Lib.hid (bst HB7.out hb8 HB7.out.size); clear ho8 hb8 R8))
  clear d0 d1
  have hgf : w.heap.size ≤ w7.heap.size ∧ w.heap.size ≠ w7.heap.size := ⟨HB7.out.size, by have := HR7.out.lt; omega⟩
  generalize w7.heap.size = gf at *
  go_loopw [7] (fun x wr => ∃ q : Nat, a1 ≤ q ∧ q ≤ a1 + a2 ∧ x = .int .i64 q ∧ OwnB wr w.heap.size gf (bl fun p => pgB rs p || (decide (a1 ≤ p) && decide (p < q))) ∧ Row wr w.heap.size 33 (cr (a1, a2)) ∧ Hid (∀ p, a1 ≤ p → p < q → pgB rs p = false) ∧ Below w.heap.size w wr) (fun x _ => a1 + a2 - (intOf x).toNat)
  case atStart => exact ⟨a1, Nat.le_refl _, by omega, rfl, by rw [bl_congr (g := pgB rs) (fun p _ => by simp; omega)]; exact HO8.out, HR8.out, (fun p h1 h2 => by omega), HB8.out⟩
  case round =>
    obtain ⟨q, hq1, hq2, rfl, hown, hrow, hno, hbr⟩ := hrel
    have c0 : wr.cell? ⟨w.heap.size, 0, none⟩ = some (.int .i64 a1) := hrow.cell 0
    have c1 : wr.cell? ⟨w.heap.size, 0 + 1, none⟩ = some (.int .i64 a2) := hrow.cell 1
    by_cases hlt2 : q < a1 + a2
    · obtain ⟨d0, d1⟩ := hown.cell (p := q) (by omega)
      have hd : (pgB rs q || (decide (a1 ≤ q) && decide (q < q))) = pgB rs q := by simp
      rw [hd] at d0
      have j1 : (q : Int) < (a1 : Int) + (a2 : Int) := by omega
      have j2 : (q : Int) < 32 := by omega
      clear hd
      cases hb : pgB rs q with
      | true =>
        rw [hb] at d0
        exact absurd hb (HPG.out q hq1 hlt2)
      | false =>
        rw [hb] at d0
        have HNO : Hid (∀ p, a1 ≤ p → p < q + 1 → pgB rs p = false) := fun p h1 h2 => by
          by_cases e : p = q
          · rw [e]; exact hb
          · exact hno.out p h1 (by omega)
        obtain ⟨s1, s2⟩ := hown.stored q true
        have S1 := Lib.hid s1
        have SB := Lib.hid (hbr.grown s2 hbr.size (fun j hj => by cases hj; exact hgf.1))
        have SR := Lib.hid (Row.grownBy hrow s2 (by intro e; cases e; omega))
        clear s1 s2 hown hrow hbr hb
        go_wp2
        go_roundw
        case rel => exact ⟨q + 1, by omega, by omega, by go_num, by rw [bl_congr (g := fun p => if p = q then true else pgB rs p || (decide (a1 ≤ p) && decide (p < q))) (fun p _ => by by_cases e : p = q; (subst e; simp; omega); (have e1 : decide (p < q + 1) = decide (p < q) := by apply decide_eq_decide.2; omega); simp [e, e1])]; exact S1.out, SR.out, HNO.out, SB.out⟩
        case measure => simp [intOf]; omega
    · obtain rfl : q = a1 + a2 := by omega
      have j1 : ¬ ((a1 + a2 : Nat) : Int) < (a1 : Int) + (a2 : Int) := by omega
      have HO := Lib.hid hown
      have HB := Lib.hid hbr
      clear hown hbr hno
      go_wp2_with (go_at_call 54; refine (s_l3Runs _ w.heap.size gf wr HO.out).mono ?_; rintro e w9 ⟨v9, rfl, ho9, hb9⟩; rw [HGR.out] at ho9; have O9 := Lib.hid (ho9.mono HB.out.size); have B9 := Lib.hid (bst HB.out hb9 HB.out.size); clear ho9 hb9)
      go_ret2
      exact ⟨_, rfl, O9.out, B9.out⟩
end Go.Proofs.Ytdiejmebodpjeaa
