/- The reference's GreysIn and WhitesIn. -/
import Derived.Test.YtdagkbgobnaijabCc1
namespace Go.Proofs.Ytdagkbgobnaijab
open Go.RowKit Ph

theorem s_l6Colours (v : Value) (zs : List Int) (w : World) (hz : IntsAt w v zs) : Calls Try.prog 118 #[v] w fun e w' => e = .returned (.bool (colsB zs)) ∧ w = w' := by
  have HZ := Lib.hid hz
  obtain ⟨va, vc, rfl⟩ := hz.shape
  clear hz
  have hE : colsB zs = (decide (zs.length ≤ 12) && zs.all (inB 0 2)) := rfl
  have HC : Hid (zs.length ≤ 12 → Calls Try.prog 111 #[.slice va zs.length vc, .int .i64 0, .int .i64 2] w fun e w' => e = .returned (.bool (zs.all (inB 0 2))) ∧ w = w') := fun h => s_l1All _ zs 0 2 w HZ.out (by omega)
  generalize zs.all (inB 0 2) = x at *
  generalize colsB zs = y at *
  generalize zs.length = n at *
  by_cases h : n ≤ 12
  · have hn : (n : Int) ≤ 12 := by omega
    have HE : Hid (y = x) := by unfold Hid; rw [hE, decide_eq_true h]; simp
    clear hE
    go_enter Try.func118, Try.ntmps118
    go_wp2_with (go_at_call 111; refine (HC.out h).mono ?_; rintro e w1 ⟨rfl, rfl⟩)
    go_ret
    exact ⟨r_b HE.out.symm, rfl⟩
  · have hn : ¬ (n : Int) ≤ 12 := by omega
    have HE : Hid (y = false) := by unfold Hid; rw [hE, decide_eq_false h]; simp
    clear hE
    go_enter Try.func118, Try.ntmps118
    go_wp2
    go_ret
    exact ⟨r_b HE.out.symm, rfl⟩
set_option maxHeartbeats 1600000 in
theorem s_l6Of (v : Value) (cs : List Int) (c : Int) (w : World) (hz : IntsAt w v cs) (hm : cs.length ≤ 12) : Calls Try.prog 94 #[v, .int .i64 c] w fun e w' => ∃ v', e = .returned v' ∧ Own w' w.heap.size v' (ofC cs c) ∧ Below w.heap.size w w' := by
  obtain ⟨i0, hi, hz0, hz1, hz2⟩ := info_parts info_int
  have HZ := Lib.hid hz
  obtain ⟨va, vc, rfl⟩ := hz.shape
  clear hz
  have HO : Hid (ofC cs c = ofTo cs c cs.length) := rfl
  generalize ofC cs c = out at *
  generalize hn : cs.length = n at *
  have HN := Lib.hid hn; clear hn
  go_enter Try.func94, Try.ntmps94
  go_wp2
  go_loopw [5, 10] (fun t i wr => ∃ k : Nat, k ≤ n ∧ i = .int .i64 k ∧ Hid (Own wr w.heap.size t (ofTo cs c k)) ∧ Hid (Below w.heap.size w wr)) (fun _ i _ => n - (intOf i).toNat)
  case atStart => exact ⟨0, Nat.zero_le _, rfl, by rw [ofTo_zero]; exact Own.nil _ _, Below.refl _ _⟩
  case round =>
    obtain ⟨k, hk, rfl, ho, hb⟩ := hrel
    by_cases hlt : k < n
    · obtain ⟨g, off, rfl, hc⟩ := (HZ.out.below hb.out).at' (by omega)
      have q := hc k hlt
      have i1 : (k : Int) < (n : Int) := by omega
      have i2 : (0 : Int) ≤ (k : Int) := by omega
      clear hc
      by_cases hx : cs.getD k 0 = c
      · have HE := Lib.hid (ofTo_succ_yes hx)
        have HL := Lib.hid (ofTo_len cs c k)
        rw [hx] at q
        have hcc : (c == c) = true := by simp
        have HS := Lib.hid (src_int wr (k : Int))
        have HB1 := Lib.hid (hb.out.alloc hb.out.size (.cells #[.int .i64 (k : Int)] 3))
        have HO1 := Lib.hid (ho.out.below (below1 wr (.cells #[.int .i64 (k : Int)] 3)))
        clear hx
        go_wp2_with (at_builtin; refine wl_appOwn _ rfl _ _ 25 rfl w.heap.size 3 i0 (.int .i64 0) 8 Try.underlying25 hi hz0 hz1 hz2 rfl u5 _ _ rfl HO1.out _ _ rfl HS.out (by have := HL.out; simp; unfold maxLen; omega) (by have := HL.out; simp; omega) HB1.out.size ?_; intro v1 w1 ho1 hg1 hbl; have O1 : Hid (Own w1 w.heap.size v1 (ofTo cs c k ++ [(k : Int)])) := by { unfold Hid Own; rw [List.map_append, List.length_append]; exact ho1 }; have B1 := Lib.hid (HB1.out.grown hg1 HB1.out.size (fun g' hg' => (owns_lt HO1.out hg').1)); clear ho1 hg1 hbl)
        go_roundw
        case rel => exact ⟨k + 1, by omega, by go_num, by rw [HE.out]; exact O1, B1⟩
        case measure => simp [intOf]; omega
      · have HE := Lib.hid (ofTo_succ_no hx)
        generalize cs.getD k 0 = z at *
        have hcc : (z == c) = false := by simpa using hx
        clear hx
        go_wp2
        go_roundw
        case rel => exact ⟨k + 1, by omega, by go_num, by rw [HE.out]; exact ho, hb⟩
        case measure => simp [intOf]; omega
    · have hkn : Hid (k = n) := by unfold Hid; omega
      go_wp2
      go_ret
      exact ⟨_, rfl, by rw [HO.out, ← hkn.out]; exact ho.out, hb.out⟩
set_option maxHeartbeats 1600000 in
theorem s_GreysIn (v : Value) (zs : List Int) (w : World) (hz : IntsAt w v zs) : Calls Try.prog 60 #[v] w (EndI (ofR zs 1) (colsB zs) w) := by
  have HC := Lib.hid (s_l6Colours v zs w hz)
  have HT : Hid (colsB zs = true → Calls Try.prog 94 #[v, .int .i64 1] w fun e w' => ∃ v', e = .returned v' ∧ Own w' w.heap.size v' (ofC zs 1) ∧ Below w.heap.size w w') := fun h => s_l6Of v zs 1 w hz (colsB_iff.1 h).1
  have HR : Hid (ofR zs 1 = if colsB zs = true then ofC zs 1 else []) := rfl
  clear hz
  generalize colsB zs = x at *
  generalize ofR zs 1 = r at *
  generalize ofC zs 1 = o at *
  cases x
  · go_enter Try.func60, Try.ntmps60
    go_wp2_with (go_at_call 118; refine HC.out.mono ?_; rintro e w1 ⟨rfl, rfl⟩)
    go_ret2
    exact endI_no (Below.refl _ _) HR.out rfl
  · replace HT := Lib.hid (HT.out rfl)
    go_enter Try.func60, Try.ntmps60
    go_wp2_with (go_at_call 118; refine HC.out.mono ?_; rintro e w1 ⟨rfl, rfl⟩)
    refine HT.out.mono ?_
    rintro e w1 ⟨v1, rfl, ho, hb⟩
    have O1 := Lib.hid ho; have B1 := Lib.hid hb
    clear ho hb
    go_wp2_with fail
    go_ret2
    exact endI_yes B1.out O1.out (Nat.le_refl _) HR.out rfl
set_option maxHeartbeats 1600000 in
theorem s_WhitesIn (v : Value) (zs : List Int) (w : World) (hz : IntsAt w v zs) : Calls Try.prog 62 #[v] w (EndI (ofR zs 0) (colsB zs) w) := by
  have HC := Lib.hid (s_l6Colours v zs w hz)
  have HT : Hid (colsB zs = true → Calls Try.prog 94 #[v, .int .i64 0] w fun e w' => ∃ v', e = .returned v' ∧ Own w' w.heap.size v' (ofC zs 0) ∧ Below w.heap.size w w') := fun h => s_l6Of v zs 0 w hz (colsB_iff.1 h).1
  have HR : Hid (ofR zs 0 = if colsB zs = true then ofC zs 0 else []) := rfl
  clear hz
  generalize colsB zs = x at *
  generalize ofR zs 0 = r at *
  generalize ofC zs 0 = o at *
  cases x
  · go_enter Try.func62, Try.ntmps62
    go_wp2_with (go_at_call 118; refine HC.out.mono ?_; rintro e w1 ⟨rfl, rfl⟩)
    go_ret2
    exact endI_no (Below.refl _ _) HR.out rfl
  · replace HT := Lib.hid (HT.out rfl)
    go_enter Try.func62, Try.ntmps62
    go_wp2_with (go_at_call 118; refine HC.out.mono ?_; rintro e w1 ⟨rfl, rfl⟩)
    refine HT.out.mono ?_
    rintro e w1 ⟨v1, rfl, ho, hb⟩
    have O1 := Lib.hid ho; have B1 := Lib.hid hb
    clear ho hb
    go_wp2_with fail
    go_ret2
    exact endI_yes B1.out O1.out (Nat.le_refl _) HR.out rfl
end Go.Proofs.Ytdagkbgobnaijab
