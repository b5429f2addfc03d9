/- The project's SetField and SetRoot. -/
import Derived.Test.YtdagkbgobnaijabHw6
namespace Go.Proofs.Ytdagkbgobnaijab.Ph
def hasFB (h : H) (t f : Int) : Bool := liveB h.l t && decide (0 ≤ f) && decide (f < ((h.f.getD t.toNat []).length : Int))
def hasRB (h : H) (k : Int) : Bool := decide (0 ≤ k) && decide (k < (h.r.length : Int))
def setFOk (h : H) (t f z : Int) : Bool := good h && hasFB h t f && refB h.l z
def setROk (h : H) (k z : Int) : Bool := good h && hasRB h k && refB h.l z
def setF (h : H) (t f z : Int) : H := if setFOk h t f z = true then ⟨h.f.set t.toNat ((h.f.getD t.toNat []).set f.toNat z), h.l, h.r⟩ else ⟨[], [], []⟩
def setR (h : H) (k z : Int) : H := if setROk h k z = true then ⟨h.f, h.l, h.r.set k.toNat z⟩ else ⟨[], [], []⟩
theorem live_inRg {h : H} (g : Ph.Good h) {z : Int} (hz : liveB h.l z = true) : 0 ≤ z ∧ z < h.f.length := by
  have := liveB_lt hz
  rw [g.ll] at this
  exact this
theorem setF_no {h : H} {t f z : Int} (k : setFOk h t f z = false) : setF h t f z = ⟨[], [], []⟩ := by unfold setF; rw [k]; rfl
theorem setF_yes {h : H} {t f z : Int} (k : setFOk h t f z = true) : setF h t f z = ⟨h.f.set t.toNat ((h.f.getD t.toNat []).set f.toNat z), h.l, h.r⟩ := by unfold setF; rw [k]; rfl
theorem setR_no {h : H} {t z : Int} (k : setROk h t z = false) : setR h t z = ⟨[], [], []⟩ := by unfold setR; rw [k]; rfl
theorem setR_yes {h : H} {t z : Int} (k : setROk h t z = true) : setR h t z = ⟨h.f, h.l, h.r.set t.toNat z⟩ := by unfold setR; rw [k]; rfl
end Go.Proofs.Ytdagkbgobnaijab.Ph
namespace Go.Proofs.Ytdagkbgobnaijab
open Go.RowKit Ph

theorem endH_no {w w' : World} {h : H} {ok : Bool} (hb : Below w.heap.size w w') (h1 : h = ⟨[], [], []⟩) (h2 : ok = false) : EndH h ok w (.returned (.tuple #[hv (.slice none 0 0) (.slice none 0 0) (.slice none 0 0), .bool false])) w' := by
  subst h1; subst h2
  exact ⟨_, _, _, rfl, OwnH.nil w' _ _, hb⟩
theorem endH_yes {w w' : World} {h h' : H} {ok : Bool} {a b c : Value} {lo hi : Nat} (hb : Below w.heap.size w w') (ho : OwnH w' lo hi a b c h') (hl : w.heap.size ≤ lo) (hi' : hi ≤ w'.heap.size) (h1 : h = h') (h2 : ok = true) : EndH h ok w (.returned (.tuple #[hv a b c, .bool true])) w' := by
  subst h1; subst h2
  exact ⟨_, _, _, rfl, ho.wide hl hi', hb⟩
set_option maxHeartbeats 1600000 in
theorem c_hasField (a b c : Value) (h : H) (t f : Int) (w : World) (hA : HeapAt w a b c h) (hG : Ph.Good h) : Calls Try.prog 164 #[hv a b c, .int .i64 t, .int .i64 f] w fun e w' => e = .returned (.bool (hasFB h t f)) ∧ Below w.heap.size w w' := by
  have hb0 := below1 w (.cells (c3 a b c) 27)
  have A0 := Lib.hid (hA.below hb0)
  have HB := Lib.hid hb0
  have R0 := Lib.hid (show RowH _ _ a b c from Row.new w 27 (c3 a b c))
  have HC := Lib.hid (c_isLive a b c h.l t _ A0.out.l)
  have hlt : liveB h.l t = true → 0 ≤ t ∧ t < h.f.length := live_inRg hG
  have hx : hasFB h t f = (liveB h.l t && decide (0 ≤ f) && decide (f < ((h.f.getD t.toNat []).length : Int))) := rfl
  obtain ⟨fa, fc, rfl⟩ := hA.f.shape
  clear hA hG hb0
  have c0 := R0.out.c0
  have c1 := R0.out.c1
  have c2 := R0.out.c2
  generalize liveB h.l t = x at *
  generalize hasFB h t f = y at *
  cases x
  · have HE : Hid (y = false) := by unfold Hid; rw [hx]; rfl
    clear hx hlt
    generalize h.f.length = n at *
    go_enter Try.func164, Try.ntmps164
    go_wp2_with (go_at_call 163; refine HC.out.mono ?_; rintro e w1 ⟨rfl, hb1⟩; have B1 := Lib.hid (bst HB.out hb1 HB.out.size); clear hb1)
    go_ret
    exact ⟨r_b HE.out.symm, B1.out⟩
  · obtain ⟨ht0, htn⟩ := hlt rfl
    obtain ⟨k, rfl⟩ : ∃ k : Nat, t = k := ⟨t.toNat, by omega⟩
    obtain ⟨fb, fo, rfl, hcf⟩ := A0.out.f.at' (by omega)
    obtain ⟨u, qu, hu⟩ := hcf k (by omega)
    obtain ⟨ua, uc, rfl⟩ := hu.shape
    have QU := Lib.hid qu
    have i2 : (k : Int) < (h.f.length : Int) := by omega
    rw [Int.toNat_natCast] at hx
    clear hcf hu hlt qu
    generalize h.f.length = n at *
    generalize (h.f.getD k []).length = m at *
    by_cases f0 : 0 ≤ f
    · by_cases f1 : f < (m : Int)
      · have HE : Hid (y = true) := by unfold Hid; rw [hx]; simp [f0, f1]
        clear hx
        go_enter Try.func164, Try.ntmps164
        go_wp2_with (go_at_call 163; refine HC.out.mono ?_; rintro e w1 ⟨rfl, hb1⟩; have B1 := Lib.hid (bst HB.out hb1 HB.out.size); have d0 := (R0.out.below hb1).c0; have d1 := cellBelow hb1 (Nat.le_refl _) QU.out; clear hb1)
        go_ret
        exact ⟨r_b HE.out.symm, B1.out⟩
      · have HE : Hid (y = false) := by unfold Hid; rw [hx]; simp [f1]
        clear hx
        go_enter Try.func164, Try.ntmps164
        go_wp2_with (go_at_call 163; refine HC.out.mono ?_; rintro e w1 ⟨rfl, hb1⟩; have B1 := Lib.hid (bst HB.out hb1 HB.out.size); have d0 := (R0.out.below hb1).c0; have d1 := cellBelow hb1 (Nat.le_refl _) QU.out; clear hb1)
        go_ret
        exact ⟨r_b (by rw [HE.out]; exact decide_eq_false (by omega)), B1.out⟩
    · have HE : Hid (y = false) := by unfold Hid; rw [hx]; simp [f0]
      clear hx
      go_enter Try.func164, Try.ntmps164
      go_wp2_with (go_at_call 163; refine HC.out.mono ?_; rintro e w1 ⟨rfl, hb1⟩; have B1 := Lib.hid (bst HB.out hb1 HB.out.size); clear hb1)
      go_ret
      exact ⟨r_b HE.out.symm, B1.out⟩
set_option maxHeartbeats 1600000 in
theorem c_hasRoot (a b c : Value) (h : H) (k : Int) (w : World) (hA : HeapAt w a b c h) : Calls Try.prog 161 #[hv a b c, .int .i64 k] w fun e w' => e = .returned (.bool (hasRB h k)) ∧ Below w.heap.size w w' := by
  obtain ⟨ra, rc, rfl⟩ := hA.r.shape
  have hx : hasRB h k = (decide (0 ≤ k) && decide (k < (h.r.length : Int))) := rfl
  clear hA
  generalize h.r.length = n at *
  generalize hasRB h k = y at *
  have HB := Lib.hid (below1 w (.cells (c3 a b (.slice ra n rc)) 27))
  by_cases f0 : 0 ≤ k
  · by_cases f1 : k < (n : Int)
    · have HE : Hid (y = true) := by unfold Hid; rw [hx]; simp [f0, f1]
      clear hx
      go_enter Try.func161, Try.ntmps161
      go_wp2
      go_ret
      exact ⟨r_b HE.out.symm, HB.out⟩
    · have HE : Hid (y = false) := by unfold Hid; rw [hx]; simp [f1]
      clear hx
      go_enter Try.func161, Try.ntmps161
      go_wp2
      go_ret
      exact ⟨r_b HE.out.symm, HB.out⟩
  · have HE : Hid (y = false) := by unfold Hid; rw [hx]; simp [f0]
    clear hx
    go_enter Try.func161, Try.ntmps161
    go_wp2
    go_ret
    exact ⟨r_b HE.out.symm, HB.out⟩
end Go.Proofs.Ytdagkbgobnaijab
