/- The laws' own helpers over heaps: sizes, copies, are they the same. -/
import Derived.Test.YtdagkbgobnaijabHl1
import Derived.Test.YtdagkbgobnaijabHw4
namespace Go.Proofs.Ytdagkbgobnaijab
open Go.RowKit Ph

/-- What lies in a row of zeros of which the first j have been filled. -/
def fillB (zs : List Bool) (j : Nat) : List Bool := zs.take j ++ List.replicate (zs.length - j) false
theorem fillB_length (zs : List Bool) {j : Nat} (h : j ≤ zs.length) : (fillB zs j).length = zs.length := by simp [fillB]; omega
theorem fillB_zero (zs : List Bool) : fillB zs 0 = List.replicate zs.length false := by simp [fillB]
theorem fillB_all (zs : List Bool) : fillB zs zs.length = zs := by simp [fillB]
theorem fillB_set (zs : List Bool) {j : Nat} (h : j < zs.length) : (fillB zs j).set j (zs.getD j false) = fillB zs (j + 1) := by
  unfold fillB
  have e : List.replicate (zs.length - j) false = false :: List.replicate (zs.length - (j + 1)) false := by
    rw [show zs.length - j = (zs.length - (j + 1)) + 1 by omega, List.replicate_succ]
  rw [e, List.set_append_right _ _ (by simp; omega), List.length_take, Nat.min_eq_left (by omega), Nat.sub_self, List.set_cons_zero, List.take_succ_eq_append_getElem h]
  have e2 : zs.getD j false = zs[j] := by simp [List.getD, List.getElem?_eq_getElem h]
  rw [e2, List.append_assoc]
  rfl

theorem info_boolz : (Try.prog.info? 4).map (fun i => (i.zero, i.size, i.bytes)) = some (some (.bool false), 1, 1) := by kernel_rfl
theorem info_ints : (Try.prog.info? 25).map (fun i => (i.zero, i.size, i.bytes)) = some (some (.slice none 0 0), 1, 24) := by kernel_rfl
set_option maxHeartbeats 400000 in
theorem c_toBoolS (v : Value) (zs : List Bool) (w : World) (hA : BoolsAt w v zs) (hm : zs.length ≤ 1048576) :
    Calls Try.prog 123 #[v] w fun e w' => ∃ v', e = .returned v' ∧ OwnBs w' w.heap.size v' zs ∧ Below w.heap.size w w' := by
  obtain ⟨i0, hi, hz0, hz1, hz2⟩ := info_parts info_boolz
  obtain ⟨a, ca, rfl, hA⟩ := hA
  generalize hn : zs.length = n at *
  have HN := Lib.hid hn; clear hn
  have HA := Lib.hid hA; clear hA
  go_enter Try.func123, Try.ntmps123
  go_wp2_with (refine wpList_make_full _ rfl _ _ 24 rfl w.heap.size 4 i0 (.bool false) 1 Try.underlying24 hi hz0 hz1 .i64 .i64 _ _ n rfl rfl rfl rfl (by rw [hz2]; omega) (by unfold maxLen; omega) (Nat.le_refl _) ?_; intro w1 hown hgr; rw [Nat.mul_one, show (Value.bool false).cells = #[.bool false] from rfl, toList_madeCells_one] at hown; have hb := (Below.refl w.heap.size w).grown hgr (Nat.le_refl _) (fun k hk => by cases hk); have HO := Lib.hid hown; clear hown hgr)
  go_loopw [4] (fun i wr => ∃ j : Nat, j ≤ n ∧ i = .int .i64 j ∧ OwnBs wr w.heap.size (.slice (some ⟨w.heap.size, 0, none⟩) n n) (fillB zs j) ∧ Below w.heap.size w wr) (fun i _ => n - (intOf i).toNat)
  case atStart =>
    refine ⟨0, Nat.zero_le _, rfl, ?_, hb⟩
    unfold OwnBs
    rw [fillB_length zs (Nat.zero_le _), HN.out, fillB_zero, HN.out, List.map_replicate]
    exact HO.out
  case round =>
    obtain ⟨j, hj, rfl, hown, hbr⟩ := hrel
    by_cases hlt : j < n
    · obtain ⟨b, off, ha, hc⟩ := HA.out (by omega)
      have hq := hc j hlt
      have q : wr.cell? ⟨b, off + j, none⟩ = some (.bool (zs.getD j false)) := (hbr.cell (p := ⟨b, off + j, none⟩) (block_lt_of_cell hq)).trans hq
      clear hq hc
      have hlen := fillB_length zs (j := j) (by rw [HN.out]; exact hj)
      have hown' : wr.ownsRow w.heap.size 4 1 (.slice (some ⟨w.heap.size, 0, none⟩) n n) n ((fillB zs j).map (Value.bool)) := by
        have := hown; unfold OwnBs at this; rwa [hlen, HN.out] at this
      have hfr := hown'.frozenAt j
      obtain ⟨x, hx⟩ : ∃ x, wr.cell? ⟨w.heap.size, j, none⟩ = some x := by
        rw [hown'.cellAt j (by omega), List.getElem?_map, List.getElem?_eq_getElem (by rw [hlen, HN.out]; exact hlt)]
        exact ⟨_, rfl⟩
      obtain ⟨s1, s2⟩ := hown'.stored j (.bool (zs.getD j false))
      have S1 : Hid (OwnBs (wr.setCell ⟨w.heap.size, j, none⟩ (.bool (zs.getD j false))) w.heap.size (.slice (some ⟨w.heap.size, 0, none⟩) n n) (fillB zs (j + 1))) := by
        unfold Hid OwnBs
        rw [fillB_length zs (by rw [HN.out]; omega), HN.out, ← fillB_set zs (by rw [HN.out]; exact hlt), List.map_set]
        exact s1
      have S2 := Lib.hid (hbr.setCell (p := ⟨w.heap.size, j, none⟩) (Nat.le_refl _) (.bool (zs.getD j false)))
      clear s1 s2 hown hown' hlen
      generalize hz : zs.getD j false = z at *
      clear hz
      subst ha
      go_wp2
      go_roundw
      case rel => exact ⟨j + 1, by omega, by go_num, S1.out, S2.out⟩
      case measure => simp [intOf]; omega
    · obtain rfl : j = n := by omega
      go_wp2
      go_ret
      refine ⟨_, rfl, ?_, hbr⟩
      have := hown
      rw [← HN.out, fillB_all, HN.out] at this
      exact this

/-- What lies in a list of empty rows of which the first j have been filled. -/
def fillF (zs : List (List Int)) (j : Nat) : List (List Int) := zs.take j ++ List.replicate (zs.length - j) []
theorem fillF_length (zs : List (List Int)) {j : Nat} (h : j ≤ zs.length) : (fillF zs j).length = zs.length := by simp [fillF]; omega
theorem fillF_zero (zs : List (List Int)) : fillF zs 0 = List.replicate zs.length [] := by simp [fillF]
theorem fillF_all (zs : List (List Int)) : fillF zs zs.length = zs := by simp [fillF]
theorem fillF_set (zs : List (List Int)) {j : Nat} (h : j < zs.length) : (fillF zs j).set j (zs.getD j []) = fillF zs (j + 1) := by
  unfold fillF
  have e : List.replicate (zs.length - j) ([] : List Int) = [] :: List.replicate (zs.length - (j + 1)) [] := by
    rw [show zs.length - j = (zs.length - (j + 1)) + 1 by omega, List.replicate_succ]
  rw [e, List.set_append_right _ _ (by simp; omega), List.length_take, Nat.min_eq_left (by omega), Nat.sub_self, List.set_cons_zero, List.take_succ_eq_append_getElem h]
  have e2 : zs.getD j [] = zs[j] := by simp [List.getD, List.getElem?_eq_getElem h]
  rw [e2, List.append_assoc]
  rfl
theorem getD_rep (n i : Nat) : (List.replicate n ([] : List Int)).getD i [] = [] := by
  by_cases h : i < n
  · simp [List.getD, h]
  · simp [List.getD, h]
theorem FamH.made {w : World} {lo hi g n : Nat} (ho : w.ownsRow lo 25 1 (.slice (some ⟨g, 0, none⟩) n n) n (List.replicate n (.slice none 0 0))) (hg : g < hi) : FamH w lo hi (.slice (some ⟨g, 0, none⟩) n n) (.slice none 0 0) (.slice none 0 0) (fun _ => .slice none 0 0) ⟨List.replicate n [], [], []⟩ := by
  have e0 : (List.range n).map (fun _ : Nat => Value.slice none 0 0) = List.replicate n (.slice none 0 0) := by
    apply List.ext_getElem?
    intro j
    by_cases h : j < n <;> simp [h]
  refine ⟨fun k hk => ?_, fun k hk g' hg' => ?_, fun j k hj hk hjk => ?_⟩
  · match k with
    | 0 => simp only [tyH, vH, cH, List.length_map, List.length_range, List.length_replicate]; rw [e0]; exact ho
    | 1 => exact ⟨rfl, .inl ⟨rfl, rfl⟩⟩
    | 2 => exact ⟨rfl, .inl ⟨rfl, rfl⟩⟩
    | k + 3 => simp only [tyH, vH, cH]; rw [getD_rep]; exact ⟨rfl, .inl ⟨rfl, rfl⟩⟩
  · match k with
    | 0 => simp only [vH, Value.ownBlock, Option.some.injEq] at hg'; omega
    | 1 => cases hg'
    | 2 => cases hg'
    | k + 3 => cases hg'
  · match j, k with
    | 0, 0 => exact absurd rfl hjk
    | 0, 1 => exact .inr (by simp [vH, Value.ownBlock])
    | 0, 2 => exact .inr (by simp [vH, Value.ownBlock])
    | 0, k + 3 => exact .inr (by simp [vH, Value.ownBlock])
    | 1, _ => exact .inl rfl
    | 2, _ => exact .inl rfl
    | j + 3, _ => exact .inl rfl
set_option maxHeartbeats 1600000 in
theorem c_toIntSS (v : Value) (fs : List (List Int)) (w : World) (hA : RowsAt w v fs) (hm : wt fs ≤ 1048576) :
    Calls Try.prog 122 #[v] w fun e w' => ∃ v', e = .returned v' ∧ OwnH w' w.heap.size w'.heap.size v' (.slice none 0 0) (.slice none 0 0) ⟨fs, [], []⟩ ∧ Below w.heap.size w w' := by
  obtain ⟨i0, hi, hz0, hz1, hz2⟩ := info_parts info_ints
  obtain ⟨a, ca, rfl⟩ := hA.shape
  have HM : Hid (∀ j, j < fs.length → (fs.getD j []).length ≤ 1048576) := fun j hj => by
    have h1 := sumL_succ hj
    have h2 := sumL_le fs (j + 1)
    unfold wt at hm
    omega
  have hm' : fs.length ≤ 1048576 := by unfold wt at hm; omega
  clear hm
  generalize hn : fs.length = n at *
  have HN := Lib.hid hn; clear hn
  have HA := Lib.hid hA; clear hA
  go_enter Try.func122, Try.ntmps122
  go_wp2_with (refine wpList_make_full _ rfl _ _ 23 rfl w.heap.size 25 i0 (.slice none 0 0) 1 Try.underlying23 hi hz0 hz1 .i64 .i64 _ _ n rfl rfl rfl rfl (by rw [hz2]; omega) (by unfold maxLen; omega) (Nat.le_refl _) ?_; intro w1 hown hgr; rw [Nat.mul_one, show (Value.slice none 0 0).cells = #[.slice none 0 0] from rfl, toList_madeCells_one] at hown; have hb := (Below.refl w.heap.size w).grown hgr (Nat.le_refl _) (fun k hk => by cases hk); have HO := Lib.hid hown; clear hown hgr)
  go_loopw [4] (fun i wr => ∃ j : Nat, j ≤ n ∧ i = .int .i64 j ∧ (∃ us, FamH wr w.heap.size wr.heap.size (.slice (some ⟨w.heap.size, 0, none⟩) n n) (.slice none 0 0) (.slice none 0 0) us ⟨fillF fs j, [], []⟩) ∧ Below w.heap.size w wr) (fun i _ => n - (intOf i).toNat)
  case atStart =>
    refine ⟨0, Nat.zero_le _, rfl, ⟨fun _ => .slice none 0 0, ?_⟩, hb⟩
    rw [fillF_zero, HN.out]
    exact FamH.made HO.out (owns_lt HO.out rfl).2
  case round =>
    obtain ⟨j, hj, rfl, ⟨us, hfam⟩, hbr⟩ := hrel
    by_cases hlt : j < n
    · obtain ⟨b, off, ha, hc⟩ := HA.out.at' (by omega)
      obtain ⟨u, hq, hu⟩ := hc j hlt
      have q := cellBelow hbr (Nat.le_refl _) hq
      have hu' := Lib.hid (hu.below hbr)
      have hlu := Lib.hid (HM.out j hlt)
      have hjl : j < fs.length := by rw [HN.out]; exact hlt
      have hfl : (fillF fs j).length = n := by rw [fillF_length fs (by omega), HN.out]
      have hfs := Lib.hid (fillF_set fs hjl)
      have HF := Lib.hid hfam; have HBR := Lib.hid hbr; have HFL := Lib.hid hfl
      clear hc hq hu hfam hbr hjl hfl
      generalize fs.getD j [] = zs at *
      subst ha
      go_wp2_with fail
      refine (c_toIntS u zs _ hu'.out hlu.out).mono ?_
      rintro e w2 ⟨u2, rfl, ho2, hb2⟩
      have F2 := Fam.below HF.out hb2
      have F2' : FamH w2 w.heap.size wr.heap.size (.slice (some ⟨w.heap.size, 0, none⟩) n n) (.slice none 0 0) (.slice none 0 0) us ⟨fillF fs j, [], []⟩ := F2
      have hsz : w.heap.size ≤ wr.heap.size := HBR.out.size
      obtain ⟨c1, f1⟩ := F2'.cell (g := w.heap.size) (cap := n) (i := j) (by simp only [HFL.out]) (by simp only [HFL.out]; exact hlt)
      obtain ⟨s1, s2⟩ := F2'.putRow (i := j) (by simp only [HFL.out]; exact hlt) (ho2.mono hsz) (hi' := w2.heap.size) hb2.size (fun g hg => .inl (owns_lt ho2 hg)) (g := w.heap.size) (cap := n) (by simp only [HFL.out])
      simp only [hfs.out] at s1
      have hszs : (w2.setCell ⟨w.heap.size, j, none⟩ u2).heap.size = w2.heap.size := World.size_setCell _ _ _
      rw [← hszs] at s1
      have S1 := Lib.hid s1
      have S2 := Lib.hid ((bst HBR.out hb2 HBR.out.size).setCell (p := ⟨w.heap.size, j, none⟩) (Nat.le_refl _) u2)
      obtain ⟨ua, uc, rfl⟩ := ho2.ints.shape
      clear s1 s2 F2 F2' ho2 hb2 hszs q
      generalize us j = x at *
      generalize zs.length = m at *
      go_wp2
      go_roundw
      case rel => exact ⟨j + 1, by omega, by go_num, ⟨_, S1.out⟩, S2.out⟩
      case measure => simp [intOf]; omega
    · obtain rfl : j = n := by omega
      go_wp2
      go_ret
      refine ⟨_, rfl, ⟨us, ?_⟩, hbr⟩
      have := hfam
      rw [← HN.out, fillF_all, HN.out] at this
      exact this
end Go.Proofs.Ytdagkbgobnaijab
