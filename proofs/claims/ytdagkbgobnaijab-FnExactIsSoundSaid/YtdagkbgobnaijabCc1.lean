/- The project's GreysIn and WhitesIn. -/
import Derived.Test.YtdagkbgobnaijabCe1
import Derived.Test.YtdagkbgobnaijabHw5
namespace Go.Proofs.Ytdagkbgobnaijab
open Go.RowKit Ph

theorem src_int (W : World) (x : Int) : SrcAt (W.alloc (.cells #[.int .i64 x] 3)) (.slice (some ⟨W.heap.size, 0, none⟩) 1 1) ([x].map (Value.int .i64)) :=
  ⟨_, 1, rfl, fun u hu => by simp at hu; rw [hu]; rfl, fun _ => ⟨W.heap.size, 0, rfl, fun j hj => by simp at hj; subst hj; exact Row.cell (Row.new W 3 #[.int .i64 x]) 0⟩⟩
theorem inB_iff {lo hi z : Int} : inB lo hi z = true ↔ lo ≤ z ∧ z ≤ hi := by unfold inB; rw [Bool.and_eq_true, decide_eq_true_eq, decide_eq_true_eq]
theorem inB_no {lo hi z : Int} (h : ¬ (lo ≤ z ∧ z ≤ hi)) : inB lo hi z = false := by
  cases hq : inB lo hi z with
  | false => rfl
  | true => exact absurd (inB_iff.1 hq) h
set_option maxHeartbeats 1600000 in
theorem c_areWithin (v : Value) (zs : List Int) (lo hi : Int) (w : World) (hz : IntsAt w v zs) (hm : zs.length ≤ 9223372036854775806) : Calls Try.prog 139 #[v, .int .i64 lo, .int .i64 hi] w fun e w' => e = .returned (.bool (zs.all (inB lo hi))) ∧ w = w' := by
  obtain ⟨va, vc, rfl, hA⟩ := hz
  have HA := Lib.hid hA
  clear hA
  generalize hn : zs.length = n at *
  have HN := Lib.hid hn; clear hn
  go_enter Try.func139, Try.ntmps139
  go_wp2
  go_loop [11] (fun i => ∃ k : Nat, k ≤ n ∧ i = .int .i64 k ∧ Hid ((zs.take k).all (inB lo hi) = true)) (fun i => n - (intOf i).toNat)
  case atStart => exact ⟨0, Nat.zero_le _, rfl, by simp [Hid]⟩
  case round =>
    obtain ⟨k, hk, rfl, ht⟩ := hrel
    by_cases hlt : k < n
    · obtain ⟨g, off, rfl, hc⟩ := HA.out (by omega)
      have q := hc k hlt
      have i1 : (k : Int) < (n : Int) := by omega
      have hs := inAll_take_succ (lo := lo) (hi := hi) (zs := zs) (k := k) (by rw [HN.out]; exact hlt)
      have hf := inAll_false (lo := lo) (hi := hi) (zs := zs) (k := k) (by rw [HN.out]; exact hlt)
      have HS := Lib.hid hs; have HF := Lib.hid hf
      clear hc hs hf
      generalize zs.getD k 0 = z at *
      by_cases h1 : z < lo
      · have HE : Hid (zs.all (inB lo hi) = false) := HF.out (inB_no (by omega))
        clear HS HF
        go_wp2
        go_ret
        exact ⟨r_b HE.out.symm, rfl⟩
      · by_cases h2 : hi < z
        · have HE : Hid (zs.all (inB lo hi) = false) := HF.out (inB_no (by omega))
          clear HS HF
          go_wp2
          go_ret
          exact ⟨r_b HE.out.symm, rfl⟩
        · have HE : Hid ((zs.take (k + 1)).all (inB lo hi) = true) := by unfold Hid; rw [HS.out, ht.out, inB_iff.2 ⟨by omega, by omega⟩]; rfl
          clear HS HF
          go_wp2
          go_round
          case rel => exact ⟨k + 1, by omega, by go_num, HE.out⟩
          case measure => simp [intOf]; omega
    · have HE : Hid (zs.all (inB lo hi) = true) := by
        unfold Hid
        have := ht.out
        rwa [List.take_of_length_le (by rw [HN.out]; omega)] at this
      go_wp2
      go_ret
      exact ⟨r_b HE.out.symm, rfl⟩
theorem c_areColours (v : Value) (zs : List Int) (w : World) (hz : IntsAt w v zs) : Calls Try.prog 105 #[v] w fun e w' => e = .returned (.bool (colsB zs)) ∧ w = w' := by
  have HZ := Lib.hid hz
  obtain ⟨va, vc, rfl⟩ := hz.shape
  clear hz
  have hE : colsB zs = (decide (zs.length ≤ 12) && zs.all (inB 0 2)) := rfl
  have HC : Hid (zs.length ≤ 12 → Calls Try.prog 139 #[.slice va zs.length vc, .int .i64 0, .int .i64 2] w fun e w' => e = .returned (.bool (zs.all (inB 0 2))) ∧ w = w') := fun h => c_areWithin _ zs 0 2 w HZ.out (by omega)
  generalize zs.all (inB 0 2) = x at *
  generalize colsB zs = y at *
  generalize zs.length = n at *
  by_cases h : n ≤ 12
  · have hn : (n : Int) ≤ 12 := by omega
    have HE : Hid (y = x) := by unfold Hid; rw [hE, decide_eq_true h]; simp
    clear hE
    go_enter Try.func105, Try.ntmps105
    go_wp2_with (go_at_call 139; refine (HC.out h).mono ?_; rintro e w1 ⟨rfl, rfl⟩)
    go_ret
    exact ⟨r_b HE.out.symm, rfl⟩
  · have hn : ¬ (n : Int) ≤ 12 := by omega
    have HE : Hid (y = false) := by unfold Hid; rw [hE, decide_eq_false h]; simp
    clear hE
    go_enter Try.func105, Try.ntmps105
    go_wp2
    go_ret
    exact ⟨r_b HE.out.symm, rfl⟩
set_option maxHeartbeats 1600000 in
theorem c_thingsOf (v : Value) (cs : List Int) (c : Int) (w : World) (hz : IntsAt w v cs) (hm : cs.length ≤ 12) : Calls Try.prog 97 #[v, .int .i64 c] w fun e w' => ∃ v', e = .returned v' ∧ Own w' w.heap.size v' (ofC cs c) ∧ Below w.heap.size w w' := by
  obtain ⟨i0, hi, hz0, hz1, hz2⟩ := info_parts info_int
  have HZ := Lib.hid hz
  obtain ⟨va, vc, rfl⟩ := hz.shape
  clear hz
  have HO : Hid (ofC cs c = ofTo cs c cs.length) := rfl
  generalize ofC cs c = out at *
  generalize hn : cs.length = n at *
  have HN := Lib.hid hn; clear hn
  go_enter Try.func97, Try.ntmps97
  go_wp2
  go_loopw [5, 9] (fun t i wr => ∃ k : Nat, k ≤ n ∧ i = .int .i64 k ∧ Hid (Own wr w.heap.size t (ofTo cs c k)) ∧ Hid (Below w.heap.size w wr)) (fun _ i _ => n - (intOf i).toNat)
  case atStart => exact ⟨0, Nat.zero_le _, rfl, by rw [ofTo_zero]; exact Own.nil _ _, Below.refl _ _⟩
  case round =>
    obtain ⟨k, hk, rfl, ho, hb⟩ := hrel
    by_cases hlt : k < n
    · obtain ⟨g, off, rfl, hc⟩ := (HZ.out.below hb.out).at' (by omega)
      have q := hc k hlt
      have i1 : (k : Int) < (n : Int) := by omega
      have i2 : (0 : Int) ≤ (k : Int) := by omega
      clear hc
      by_cases hx : cs.getD k 0 = c
      · have HE := Lib.hid (ofTo_succ_yes hx)
        have HL := Lib.hid (ofTo_len cs c k)
        rw [hx] at q
        have hcc : (c == c) = true := by simp
        have HS := Lib.hid (src_int wr (k : Int))
        have HB1 := Lib.hid (hb.out.alloc hb.out.size (.cells #[.int .i64 (k : Int)] 3))
        have HO1 := Lib.hid (ho.out.below (below1 wr (.cells #[.int .i64 (k : Int)] 3)))
        clear hx
        go_wp2_with (at_builtin; refine wl_appOwn _ rfl _ _ 25 rfl w.heap.size 3 i0 (.int .i64 0) 8 Try.underlying25 hi hz0 hz1 hz2 rfl u5 _ _ rfl HO1.out _ _ rfl HS.out (by have := HL.out; simp; unfold maxLen; omega) (by have := HL.out; simp; omega) HB1.out.size ?_; intro v1 w1 ho1 hg1 hbl; have O1 : Hid (Own w1 w.heap.size v1 (ofTo cs c k ++ [(k : Int)])) := by { unfold Hid Own; rw [List.map_append, List.length_append]; exact ho1 }; have B1 := Lib.hid (HB1.out.grown hg1 HB1.out.size (fun g' hg' => (owns_lt HO1.out hg').1)); clear ho1 hg1 hbl)
        go_roundw
        case rel => exact ⟨k + 1, by omega, by go_num, by rw [HE.out]; exact O1, B1⟩
        case measure => simp [intOf]; omega
      · have HE := Lib.hid (ofTo_succ_no hx)
        generalize cs.getD k 0 = z at *
        have hcc : (z == c) = false := by simpa using hx
        clear hx
        go_wp2
        go_roundw
        case rel => exact ⟨k + 1, by omega, by go_num, by rw [HE.out]; exact ho, hb⟩
        case measure => simp [intOf]; omega
    · have hkn : Hid (k = n) := by unfold Hid; omega
      go_wp2
      go_ret
      exact ⟨_, rfl, by rw [HO.out, ← hkn.out]; exact ho.out, hb.out⟩
set_option maxHeartbeats 1600000 in
theorem c_GreysIn (v : Value) (zs : List Int) (w : World) (hz : IntsAt w v zs) : Calls Try.prog 43 #[v] w (EndI (ofR zs 1) (colsB zs) w) := by
  have HC := Lib.hid (c_areColours v zs w hz)
  have HT : Hid (colsB zs = true → Calls Try.prog 97 #[v, .int .i64 1] w fun e w' => ∃ v', e = .returned v' ∧ Own w' w.heap.size v' (ofC zs 1) ∧ Below w.heap.size w w') := fun h => c_thingsOf v zs 1 w hz (colsB_iff.1 h).1
  have HR : Hid (ofR zs 1 = if colsB zs = true then ofC zs 1 else []) := rfl
  clear hz
  generalize colsB zs = x at *
  generalize ofR zs 1 = r at *
  generalize ofC zs 1 = o at *
  cases x
  · go_enter Try.func43, Try.ntmps43
    go_wp2_with (go_at_call 105; refine HC.out.mono ?_; rintro e w1 ⟨rfl, rfl⟩)
    go_ret2
    exact endI_no (Below.refl _ _) HR.out rfl
  · replace HT := Lib.hid (HT.out rfl)
    go_enter Try.func43, Try.ntmps43
    go_wp2_with (go_at_call 105; refine HC.out.mono ?_; rintro e w1 ⟨rfl, rfl⟩)
    refine HT.out.mono ?_
    rintro e w1 ⟨v1, rfl, ho, hb⟩
    have O1 := Lib.hid ho; have B1 := Lib.hid hb
    clear ho hb
    go_wp2_with fail
    go_ret2
    exact endI_yes B1.out O1.out (Nat.le_refl _) HR.out rfl
set_option maxHeartbeats 1600000 in
theorem c_WhitesIn (v : Value) (zs : List Int) (w : World) (hz : IntsAt w v zs) : Calls Try.prog 61 #[v] w (EndI (ofR zs 0) (colsB zs) w) := by
  have HC := Lib.hid (c_areColours v zs w hz)
  have HT : Hid (colsB zs = true → Calls Try.prog 97 #[v, .int .i64 0] w fun e w' => ∃ v', e = .returned v' ∧ Own w' w.heap.size v' (ofC zs 0) ∧ Below w.heap.size w w') := fun h => c_thingsOf v zs 0 w hz (colsB_iff.1 h).1
  have HR : Hid (ofR zs 0 = if colsB zs = true then ofC zs 0 else []) := rfl
  clear hz
  generalize colsB zs = x at *
  generalize ofR zs 0 = r at *
  generalize ofC zs 0 = o at *
  cases x
  · go_enter Try.func61, Try.ntmps61
    go_wp2_with (go_at_call 105; refine HC.out.mono ?_; rintro e w1 ⟨rfl, rfl⟩)
    go_ret2
    exact endI_no (Below.refl _ _) HR.out rfl
  · replace HT := Lib.hid (HT.out rfl)
    go_enter Try.func61, Try.ntmps61
    go_wp2_with (go_at_call 105; refine HC.out.mono ?_; rintro e w1 ⟨rfl, rfl⟩)
    refine HT.out.mono ?_
    rintro e w1 ⟨v1, rfl, ho, hb⟩
    have O1 := Lib.hid ho; have B1 := Lib.hid hb
    clear ho hb
    go_wp2_with fail
    go_ret2
    exact endI_yes B1.out O1.out (Nat.le_refl _) HR.out rfl
end Go.Proofs.Ytdagkbgobnaijab
