/- The first place that is free: the library's Index, the project's freePlace. -/
import Derived.Test.YtdagkbgobnaijabHm1
namespace Go.Proofs.Ytdagkbgobnaijab.Ph
/-- The first index, from k on, that is not live (so far all below k are). -/
def placeOf (l : List Bool) : Nat := l.findIdx (fun b => !b)
theorem place_le (l : List Bool) : placeOf l ≤ l.length := List.findIdx_le_length
theorem place_of {l : List Bool} {k : Nat} (hk : k < l.length) (h1 : ∀ i, i < k → l.getD i false = true) (h2 : l.getD k false = false) : placeOf l = k := by
  unfold placeOf
  have e : l[k] = false := by simpa [List.getD, List.getElem?_eq_getElem hk] using h2
  refine (List.findIdx_eq hk).2 ⟨by rw [e]; rfl, fun j hj => ?_⟩
  have := h1 j hj
  have hj' : j < l.length := by omega
  have e2 : l[j] = true := by simpa [List.getD, List.getElem?_eq_getElem hj'] using this
  rw [e2]; rfl
theorem place_none {l : List Bool} (h1 : ∀ i, i < l.length → l.getD i false = true) : placeOf l = l.length := by
  unfold placeOf
  rw [List.findIdx_eq_length]
  intro x hx
  obtain ⟨i, hi, rfl⟩ := List.getElem_of_mem hx
  have := h1 i hi
  have e : l[i] = true := by simpa [List.getD, List.getElem?_eq_getElem hi] using this
  rw [e]; rfl
end Go.Proofs.Ytdagkbgobnaijab.Ph
namespace Go.Proofs.Ytdagkbgobnaijab
open Go.RowKit Ph

set_option maxHeartbeats 1600000 in
theorem c_slIndex (v : Value) (l : List Bool) (w : World) (hA : BoolsAt w v l) (hm : l.length ≤ 1000) : Calls Try.prog 167 #[v, .bool false] w fun e w' => e = .returned (.int .i64 (if placeOf l < l.length then (placeOf l : Int) else -1)) ∧ w = w' := by
  obtain ⟨a, c, rfl, hA⟩ := hA
  have HP := Lib.hid (fun k => place_of (l := l) (k := k)); have HQ := Lib.hid (place_none (l := l))
  generalize hr : (if placeOf l < l.length then (placeOf l : Int) else -1) = r
  have HR : Hid (r = if placeOf l < l.length then (placeOf l : Int) else -1) := hr.symm
  clear hr
  have HA := Lib.hid hA
  clear hA
  generalize hn : l.length = n at *
  clear hn
  go_enter Try.func167, Try.ntmps167
  go_wp2
  go_loop [8] (fun i => ∃ k : Nat, k ≤ n ∧ i = .int .i64 k ∧ Hid (∀ i, i < k → l.getD i false = true)) (fun i => n - (intOf i).toNat)
  case atStart => exact ⟨0, Nat.zero_le _, rfl, fun i hi => by omega⟩
  case round =>
    obtain ⟨k, hk, rfl, ht⟩ := hrel
    by_cases hlt : k < n
    · obtain ⟨g, off, rfl, hc⟩ := HA.out (by omega)
      have q := hc k hlt
      have i1 : (k : Int) < (n : Int) := by omega
      clear hc
      generalize hx : l.getD k false = x at *
      have HX := Lib.hid hx
      clear hx
      cases x
      · have hp := HP.out k hlt ht.out HX.out
        have HE : Hid (r = (k : Int)) := by unfold Hid; rw [HR.out, hp, if_pos hlt]
        clear hp
        go_wp2
        go_ret
        exact ⟨r_i HE.out.symm, rfl⟩
      · have HE : Hid (∀ i, i < k + 1 → l.getD i false = true) := fun i hi => by
          by_cases e : i = k
          · subst e; exact HX.out
          · exact ht.out i (by omega)
        go_wp2
        go_round
        case rel => exact ⟨k + 1, by omega, by go_num, HE.out⟩
        case measure => simp [intOf]; omega
    · obtain rfl : k = n := by omega
      have hp := HQ.out ht.out
      have HE : Hid (r = -1) := by unfold Hid; rw [HR.out, hp, if_neg (by omega)]
      clear hp
      go_wp2
      go_ret
      exact ⟨r_i HE.out.symm, rfl⟩
set_option maxHeartbeats 1600000 in
theorem c_freePlace (a b c : Value) (h : H) (w : World) (hA : HeapAt w a b c h) (hG : Ph.Good h) : Calls Try.prog 165 #[hv a b c] w fun e w' => e = .returned (.tuple #[.int .i64 (placeOf h.l : Int), .bool (decide (placeOf h.l < 12))]) ∧ Below w.heap.size w w' := by
  have hb0 := below1 w (.cells (c3 a b c) 27)
  have A0 := Lib.hid (hA.below hb0)
  have HB := Lib.hid hb0
  have R0 := Lib.hid (show RowH _ _ a b c from Row.new w 27 (c3 a b c))
  obtain ⟨la, lc, rfl⟩ := hA.l.shape
  have hl12 : h.l.length ≤ 12 := by have := hG.ll; have := hG.n; omega
  have HC := Lib.hid (c_slIndex _ h.l _ A0.out.l (by omega))
  have hpl := place_le h.l
  clear hA hG hb0
  generalize h.l.length = n at *
  generalize hp : placeOf h.l = p at *
  clear hp
  have c1 := R0.out.c1
  by_cases hpn : p < n
  · rw [if_pos hpn] at HC
    have i1 : (0 : Int) ≤ (p : Int) := by omega
    have HD : Hid (decide (p < 12) = true) := decide_eq_true (by omega)
    go_enter Try.func165, Try.ntmps165
    go_wp2_with (go_at_call 167; refine HC.out.mono ?_; rintro e w1 ⟨rfl, rfl⟩)
    go_ret2
    exact ⟨r_ib rfl HD.out.symm, HB.out⟩
  · rw [if_neg hpn] at HC
    obtain rfl : p = n := by omega
    have HD : Hid (decide ((p : Int) < 12) = decide (p < 12)) := by unfold Hid; apply decide_eq_decide.2; omega
    go_enter Try.func165, Try.ntmps165
    go_wp2_with (go_at_call 167; refine HC.out.mono ?_; rintro e w1 ⟨rfl, rfl⟩)
    go_quiet (fail)
    go_wp2_with fail
    go_ret2
    exact ⟨r_ib rfl HD.out, below_drewN HB.out _⟩
end Go.Proofs.Ytdagkbgobnaijab
