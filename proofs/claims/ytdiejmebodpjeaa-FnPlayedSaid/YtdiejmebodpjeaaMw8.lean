/- PlayRuns, the project's. -/
import Derived.Test.YtdiejmebodpjeaaRe1
import Derived.Test.YtdiejmebodpjeaaPy
import Derived.Maps.AppendAt
namespace Go.Proofs.Ytdiejmebodpjeaa
open Go.RowKit Go.Maps Go.Sort Pr

theorem End3.mono {ts : List R} {p : Int} {ok : Bool} {w w1 w' : World} {e : Ending} (h : End3 ts p ok w1 e w') (hb : Below w.heap.size w w1) : End3 ts p ok w e w' := by
  obtain ⟨v, he, ho, hb'⟩ := h
  exact ⟨v, he, ho.mono hb.size, bst hb hb' hb.size⟩

set_option maxRecDepth 100000 in
set_option maxHeartbeats 800000 in
theorem c_playRun_yes (v : Value) (l : List R) (s : R) (ts : List R) (p : Int) (w : World) (hA : RunsAt w v l) (h : stepO l s = some (ts, p)) : Calls Try.prog 56 #[v, rn s] w (End3 ts p true w) := by
  obtain ⟨s1, s2⟩ := s
  have HB0 := Lib.hid (below1 w (.cells (cr (s1, s2)) 33))
  have HA0 := Lib.hid (hA.below HB0.out)
  unfold stepO at h
  by_cases c : s1 < 0
  · rw [if_pos c] at h
    have HT : Hid (∀ w, RunsAt w v l → Calls Try.prog 13 #[v, .int .i64 s2] w (End3 ts p true w)) := fun w hw => c_TakeRun_yes v l s2 ts p w hw h
    clear h hA
    go_enter Try.func56, Try.ntmps56
    go_wp2_with (go_at_call 13; refine (HT.out _ HA0.out).mono ?_; rintro e w1 he; obtain ⟨v1, rfl, ho, hb⟩ := End3.mono he HB0.out; have HO := Lib.hid ho; have HB := Lib.hid hb; clear ho hb he)
    go_ret3
    exact ⟨_, rfl, HO.out, HB.out⟩
  · rw [if_neg c] at h
    obtain ⟨x, hx, e⟩ := Option.map_eq_some_iff.1 h
    simp only [Prod.mk.injEq] at e
    obtain ⟨rfl, rfl⟩ := e
    have HG : Hid (∀ w, RunsAt w v l → Calls Try.prog 18 #[v, rn (s1, s2)] w (End2 x true w)) := fun w hw => c_GiveRun_yes v l (s1, s2) x w hw hx
    clear h hA hx
    go_enter Try.func56, Try.ntmps56
    go_wp2_with (go_at_call 18; refine (HG.out _ HA0.out).mono ?_; rintro e w1 ⟨v1, rfl, ho, hb⟩; have HO := Lib.hid (ho.mono HB0.out.size); have HB := Lib.hid (bst HB0.out hb HB0.out.size); clear ho hb)
    go_ret3
    exact ⟨_, rfl, HO.out, HB.out⟩
set_option maxRecDepth 100000 in
set_option maxHeartbeats 800000 in
theorem c_playRun_no (v : Value) (l : List R) (s : R) (w : World) (hA : RunsAt w v l) (hg : good 0 l = true) (hs : i64R s) (h : stepO l s = none) : Calls Try.prog 56 #[v, rn s] w fun e w' => e = .returned (.tuple #[.slice none 0 0, .int .i64 0, .bool false]) ∧ Below w.heap.size w w' := by
  obtain ⟨s1, s2⟩ := s
  have HB0 := Lib.hid (below1 w (.cells (cr (s1, s2)) 33))
  have HA0 := Lib.hid (hA.below HB0.out)
  have hl := good_len16 hg
  unfold stepO at h
  by_cases c : s1 < 0
  · rw [if_pos c] at h
    have HT : Hid (∀ w, RunsAt w v l → Calls Try.prog 13 #[v, .int .i64 s2] w fun e w' => e = .returned (.tuple #[.slice none 0 0, .int .i64 0, .bool false]) ∧ Below w.heap.size w w') := fun w hw => c_TakeRun_no v l s2 w hw (Bnd.good hg) (by omega) h
    clear h hA hg
    go_enter Try.func56, Try.ntmps56
    go_wp2_with (go_at_call 13; refine (HT.out _ HA0.out).mono ?_; rintro e w1 ⟨rfl, hb⟩; have HB := Lib.hid (bst HB0.out hb HB0.out.size); clear hb)
    go_ret3
    exact ⟨rfl, HB.out⟩
  · rw [if_neg c] at h
    have hx := Option.map_eq_none_iff.1 h
    have HG : Hid (∀ w, RunsAt w v l → Calls Try.prog 18 #[v, rn (s1, s2)] w fun e w' => e = .returned (.tuple #[.slice none 0 0, .bool false]) ∧ Below w.heap.size w w') := fun w hw => c_GiveRun_no v l (s1, s2) w hw (Bnd.good hg) hs (by omega) hx
    clear h hA hx hg
    go_enter Try.func56, Try.ntmps56
    go_wp2_with (go_at_call 18; refine (HG.out _ HA0.out).mono ?_; rintro e w1 ⟨rfl, hb⟩; have HB := Lib.hid (bst HB0.out hb HB0.out.size); clear hb)
    go_ret3
    exact ⟨rfl, HB.out⟩

theorem wl_appIfit {ops : Array Oper} {rest : List Oper} {o : Oper} {a : Act} {w : World} {Q : Exit → Act → World → Prop} (hgd : o.guard = none) (s x : Operand) (ho : o.op = .call { callee := .builtin .append, args := #[s, x], argTypes := #[40, 40] })
    (B g k cap : Nat) (zs : List Int) (z : Int) (hs : a.eval s = .slice (some ⟨g, 0, none⟩) k cap) (hown : Own w B (.slice (some ⟨g, 0, none⟩) k cap) zs) (hk : zs.length = k) (hx : a.eval x = .slice (some ⟨w.heap.size, 0, none⟩) 1 1) (hc : k + 1 ≤ cap)
    (h : ∀ w', Own w' B (.slice (some ⟨g, 0, none⟩) (k + 1) cap) (zs ++ [z]) → (w.alloc (.cells #[.int .i64 z] 3)).grownBy w' (some g) → wpList Try.prog ops Q rest (a.put o.dst (.slice (some ⟨g, 0, none⟩) (k + 1) cap)) w') : wpList Try.prog ops Q (o :: rest) a (w.alloc (.cells #[.int .i64 z] 3)) := by
  obtain ⟨i0, hi, hz0, hz1, hz2⟩ := info_parts info_int
  unfold Own at hown
  rw [hk] at hown
  refine wpList_append_fits (w.alloc (.cells #[.int .i64 z] 3)) hgd s x 40 ho B 3 i0 1 Try.underlying40 hi hz1 g k cap (zs.map (Value.int .i64)) hs (World.ownsRow.alloc hown _) ⟨w.heap.size, 0, none⟩ 1 1 [.int .i64 z] hx rfl ?_ ?_ hc ?_
  · intro j u hj
    match j, hj with
    | 0, hj => simp at hj; subst hj; simp [Addr.add]
  · intro u hu; simp at hu; subst hu; rfl
  · intro w' ho' hg
    refine h w' ?_ hg
    unfold Own
    simpa [hk] using ho'

set_option maxRecDepth 100000 in
set_option maxHeartbeats 3200000 in
theorem c_PlayRuns_yes (v : Value) (ss : List R) (w : World) (hA : RunsAt w v ss) (hI : Bnd ss) (hn40 : ss.length ≤ 40) : Calls Try.prog 24 #[v] w (EndP (playTo ss).1 (playTo ss).2 true w) := by
  obtain ⟨i0, hi, hz0, hz1, hz2⟩ := info_parts info_int
  obtain ⟨a, ca, rfl, hA⟩ := hA
  have HP : Hid (∀ k, k ≤ ss.length → good 0 (playTo (ss.take k)).1 = true ∧ (playTo (ss.take k)).2.length = k) := fun k hk => playTo_good ss k hk
  generalize hn : ss.length = n at *
  have HN := Lib.hid hn; clear hn
  have HA := Lib.hid hA; clear hA
  have HI := Lib.hid hI; clear hI
  have h40 : ¬ (n : Int) > 40 := by omega
  go_enter Try.func24, Try.ntmps24
  go_wp2_with (first
    | (go_at_call 31; refine (c_AllFree w).mono ?_; rintro e w1 ⟨v1, rfl, ho1, hb1⟩; have HO1 := Lib.hid ho1; have HB1 := Lib.hid hb1; clear ho1 hb1)
    | (at_make; refine wpList_make_own _ rfl _ _ 40 rfl w1.heap.size 3 i0 (.int .i64 0) 1 Try.underlying40 hi hz0 hz1 _ _ _ n rfl rfl rfl (by rw [hz2]; omega) (by unfold maxLen; omega) (Nat.le_refl _) ?_; intro w2 hrow2 hg2; have hb2 := (Below.refl w1.heap.size w1).grown hg2 (Nat.le_refl _) (fun j hj => by cases hj); have HR2 := Lib.hid hrow2; have HB2 := Lib.hid hb2; clear hrow2 hg2 hb2)
    | go_in)
  have hgw : w1.heap.size < w2.heap.size := (World.ownsRow.lt HR2.out w1.heap.size rfl).2
  have hww : w.heap.size ≤ w1.heap.size := HB1.out.size
  have U1 := World.ownsRow.lt HO1.out
  generalize hgg : w1.heap.size = gr at *
  go_loopw [5, 6, 21] (fun vl vr i wr => ∃ k : Nat, k ≤ n ∧ i = .int .i64 k ∧ vr = .slice (some ⟨gr, 0, none⟩) k n ∧ OwnR wr w.heap.size vl (playTo (ss.take k)).1 ∧ Own wr w.heap.size (.slice (some ⟨gr, 0, none⟩) k n) (playTo (ss.take k)).2 ∧ vl.ownBlock ≠ some gr ∧ gr < wr.heap.size ∧ Below w.heap.size w wr) (fun _ _ i _ => n - (intOf i).toNat)
  case atStart =>
    refine ⟨0, Nat.zero_le _, rfl, rfl, HO1.out.below (by rw [hgg]; exact HB2.out), Own.mono (zs := []) HR2.out hww, fun e => ?_, hgw, bst HB1.out (by rw [hgg]; exact HB2.out) (by rw [hgg]; exact hww)⟩
    have := (U1 _ e).2
    omega
  case round =>
    obtain ⟨k, hk, rfl, rfl, hol, hor, hne, hgr, hbr⟩ := hrel
    obtain ⟨hpg, hpl⟩ := HP.out k hk
    by_cases hlt : k < n
    · obtain ⟨b, off, rfl, hcc⟩ := HA.out (by omega)
      obtain ⟨p0, p1⟩ := hcc k hlt
      have q0 := cellBelow' hbr p0
      have q1 := cellBelow' hbr p1
      clear p0 p1 hcc
      have hsu := playTo_take_succ (ss := ss) (k := k) (by rw [HN.out]; exact hlt)
      have hzI := HI.out.at k
      generalize ss.getD k (0, 0) = z at q0 q1 hsu hzI
      obtain ⟨z1, z2⟩ := z
      simp only [] at q0 q1
      generalize playTo (ss.take k) = a at *
      obtain ⟨l, told⟩ := a
      simp only [] at hpg hpl hsu hol hor
      have i1 : (k : Int) < (n : Int) := by omega
      have HB2' := Lib.hid (bst hbr (below1 wr (.cells (cr (z1, z2)) 33)) hbr.size)
      have HOL := Lib.hid (hol.below (below1 wr (.cells (cr (z1, z2)) 33)))
      have HOR := Lib.hid (hor.below (below1 wr (.cells (cr (z1, z2)) 33)))
      have hg2 : gr < (wr.alloc (.cells (cr (z1, z2)) 33)).heap.size := by simp; omega
      clear hol hor hbr
      cases hst : stepO l (z1, z2) with
      | none =>
        have HSU : Hid (playTo (ss.take (k + 1)) = (l, told ++ [-1])) := by unfold Hid; rw [hsu]; simp [stepL, hst]
        have HC : Hid (∀ w v, RunsAt w v l → Calls Try.prog 56 #[v, rn (z1, z2)] w fun e w' => e = .returned (.tuple #[.slice none 0 0, .int .i64 0, .bool false]) ∧ Below w.heap.size w w') := fun w v h => c_playRun_no v l (z1, z2) w h hpg hzI hst
        have HPL := Lib.hid hpl
        clear hsu hst hpg hpl hzI
        go_wp2_with (first
          | (go_at_call 56; refine (HC.out _ _ HOL.out.runs).mono ?_; rintro e w3 ⟨rfl, hb3⟩; have HOL3 := Lib.hid (HOL.out.below hb3); have HOR3 := Lib.hid (HOR.out.below hb3); have HB3 := Lib.hid (bst HB2'.out hb3 HB2'.out.size); have hg3 : gr < w3.heap.size := Nat.lt_of_lt_of_le hg2 hb3.size; clear hb3)
          | (at_builtin; refine wl_appIfit (w := w3) rfl _ _ rfl w.heap.size gr k n told (-1) rfl HOR3.out HPL.out rfl (by omega) ?_; intro w4 hown4 hgr4; go_frame)
          | go_in)
        have hb4 := (HB3.out.alloc HB3.out.size (.cells #[.int .i64 (-1)] 3)).grown hgr4 (by have := HB3.out.size; simp; omega) (fun j hj => by cases hj; exact hww)
        have hl4 := (HOL3.out.below (below1 w3 (.cells #[.int .i64 (-1)] 3))).kept hgr4 (Or.inr hne)
        go_roundw
        case rel => exact ⟨k + 1, by omega, by go_num, rfl, by rw [HSU.out]; exact hl4, by rw [HSU.out]; exact hown4, hne, by have := hgr4.size; simp at this; omega, hb4⟩
        case measure => simp [intOf]; omega
      | some x =>
        obtain ⟨ts, p⟩ := x
        have HSU : Hid (playTo (ss.take (k + 1)) = (ts, told ++ [p])) := by unfold Hid; rw [hsu]; simp [stepL, hst]
        have HC : Hid (∀ w v, RunsAt w v l → Calls Try.prog 56 #[v, rn (z1, z2)] w (End3 ts p true w)) := fun w v h => c_playRun_yes v l (z1, z2) ts p w h hst
        have HPL := Lib.hid hpl
        clear hsu hst hpg hpl hzI
        go_wp2_with (first
          | (go_at_call 56; refine (HC.out _ _ HOL.out.runs).mono ?_; rintro e w3 ⟨v3, rfl, ho3, hb3⟩; have U3 := Lib.hid (World.ownsRow.lt ho3); have HOL3 := Lib.hid (ho3.mono HB2'.out.size); have HOR3 := Lib.hid (HOR.out.below hb3); have HB3 := Lib.hid (bst HB2'.out hb3 HB2'.out.size); have hg3 : gr < w3.heap.size := Nat.lt_of_lt_of_le hg2 hb3.size; clear hb3 ho3)
          | (at_builtin; refine wl_appIfit (w := w3) rfl _ _ rfl w.heap.size gr k n told p rfl HOR3.out HPL.out rfl (by omega) ?_; intro w4 hown4 hgr4; go_frame)
          | go_in)
        have hne3 : v3.ownBlock ≠ some gr := fun e => by have := (U3.out _ e).1; omega
        have hb4 := (HB3.out.alloc HB3.out.size (.cells #[.int .i64 p] 3)).grown hgr4 (by have := HB3.out.size; simp; omega) (fun j hj => by cases hj; exact hww)
        have hl4 := (HOL3.out.below (below1 w3 (.cells #[.int .i64 p] 3))).kept hgr4 (Or.inr hne3)
        go_roundw
        case rel => exact ⟨k + 1, by omega, by go_num, rfl, by rw [HSU.out]; exact hl4, by rw [HSU.out]; exact hown4, hne3, by have := hgr4.size; simp at this; omega, hb4⟩
        case measure => simp [intOf]; omega
    · have HE : Hid (ss.take k = ss) := by unfold Hid; exact List.take_of_length_le (by rw [HN.out]; omega)
      rw [HE.out] at hol hor
      go_wp2
      go_ret3
      exact ⟨_, _, rfl, hol, hor, Or.inr hne, hbr⟩
theorem c_PlayRuns_no (v : Value) (ss : List R) (w : World) (hA : RunsAt w v ss) (hn40 : ¬ ss.length ≤ 40) : Calls Try.prog 24 #[v] w (EndP [] [] false w) := by
  obtain ⟨a, ca, rfl, hA⟩ := hA
  generalize ss.length = n at *
  have h40 : (n : Int) > 40 := by omega
  clear hA
  go_enter Try.func24, Try.ntmps24
  go_wp2
  go_ret3
  exact ⟨_, _, rfl, OwnR.nil _ _, Own.nil _ _, .inl rfl, Below.refl _ _⟩
end Go.Proofs.Ytdiejmebodpjeaa
