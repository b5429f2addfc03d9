/- The reference's GoodHeap. -/
import Derived.Test.YtdagkbgobnaijabHs1
namespace Go.Proofs.Ytdagkbgobnaijab
open Go.RowKit Ph

set_option maxRecDepth 100000 in
set_option maxHeartbeats 3200000 in
theorem s_GoodHeap (a b c : Value) (h : H) (w : World) (hh : HeapAt w a b c h) : Calls Try.prog 86 #[hv a b c] w fun e w' => e = .returned (.bool (good h)) ∧ Below w.heap.size w w' := by
  obtain ⟨hF, hL, hR⟩ := hh
  have hb0 := below1 w (.cells (c3 a b c) 27)
  have HF := Lib.hid (hF.below hb0)
  have HL := Lib.hid (hL.below hb0)
  have HR := Lib.hid (hR.below hb0)
  have R0 := Lib.hid (show RowH _ _ a b c from Row.new w 27 (c3 a b c))
  have HB := Lib.hid hb0
  obtain ⟨fa, fc, rfl⟩ := hF.shape
  obtain ⟨la, lc, rfl⟩ := hL.shape
  obtain ⟨ra, rc, rfl⟩ := hR.shape
  clear hF hL hR hb0
  have HM := Lib.hid (good_many (h := h))
  have HLN := Lib.hid (good_lens (h := h))
  have HG : Hid (∀ i, i < h.f.length → rowB h.l (h.l.getD i false) (h.f.getD i []) = false → good h = false) := fun i => good_row
  have HG4 : Hid (4 < h.r.length → good h = false) := good_roots
  have HGR : Hid (refsB h.l h.r = false → good h = false) := good_rr
  have HGA := Lib.hid (good_all (h := h))
  generalize hnf : h.f.length = n at *
  generalize hnl : h.l.length = nl at *
  generalize hnr : h.r.length = nr at *
  have HNF := Lib.hid hnf; have HNR := Lib.hid hnr; have HNL := Lib.hid hnl
  clear hnf hnr hnl
  by_cases n1 : 12 < n
  · have HE := Lib.hid (HM.out n1)
    have i1 : (12 : Int) < (n : Int) := by omega
    clear HF HL HR R0
    go_enter Try.func86, Try.ntmps86
    go_wp2
    go_ret
    exact ⟨r_b HE.out.symm, HB.out⟩
  · by_cases n2 : nl = n
    · have n2' := n2.symm
      subst n2'
      clear n2
      have i1 : ¬ (12 : Int) < (n : Int) := by omega
      have i2 : ((n : Int) != (n : Int)) = false := by simp
      by_cases n4 : nr ≤ 4
      · have i4 : ¬ (4 : Int) < (nr : Int) := by omega
        have HRX := Lib.hid (s_l5Names (.slice la n lc) (.slice ra nr rc) h.l h.r _ HL.out HR.out (by rw [HNR.out]; omega) (by rw [HNL.out]; omega))
        have HNM : Hid (n ≤ 9223372036854775806) := by unfold Hid; omega
        generalize hx : refsB h.l h.r = x at *
        cases x
        · have HE := Lib.hid (HGR.out rfl)
          clear hx
          go_enter Try.func86, Try.ntmps86
          go_wp2_with (go_at_call 134; refine HRX.out.mono ?_; rintro e w1 ⟨rfl, rfl⟩)
          go_ret
          exact ⟨r_b HE.out.symm, HB.out⟩
        · have HA : Hid (rowsB h.l h.f n = true → good h = true) := fun h3 => HGA.out (by omega) rfl h3 n4 rfl
          clear hx
          go_enter Try.func86, Try.ntmps86
          go_wp2_with (go_at_call 134; refine HRX.out.mono ?_; rintro e w1 ⟨rfl, rfl⟩)
          clear HRX
          generalize (w.alloc (.cells (c3 (.slice fa n fc) (.slice la n lc) (.slice ra nr rc)) 27)) = w0 at *
          go_loop [35] (fun i => ∃ k : Nat, k ≤ n ∧ i = .int .i64 k ∧ Hid (rowsB h.l h.f k = true)) (fun i => n - (intOf i).toNat)
          case atStart => exact ⟨0, Nat.zero_le _, rfl, by simp [Hid, rowsB]⟩
          case round =>
            obtain ⟨k, hk, rfl, ht⟩ := hrel
            have c0 := R0.out.c0
            have c1 := R0.out.c1
            have c2 := R0.out.c2
            by_cases hlt : k < n
            · obtain ⟨gf, of, rfl, hcf⟩ := HF.out.at' (by omega)
              have L1 := Lib.hid HL.out
              obtain ⟨gl, ol, rfl, hcl⟩ := HL.out.at' (by omega)
              obtain ⟨u, qf, hu⟩ := hcf k hlt
              have ql := hcl k hlt
              obtain ⟨ua, uc, rfl⟩ := hu.shape
              have HU := Lib.hid hu
              have i3 : (k : Int) < (n : Int) := by omega
              have hg := HG.out k hlt
              have hs := rowsB_succ (l := h.l) (fs := h.f) (n := k)
              rw [ht.out, Bool.true_and] at hs
              clear hcf hcl hu
              generalize h.f.getD k [] = zs at *
              generalize hon : h.l.getD k false = on at *
              have HS := Lib.hid hs; have HG' := Lib.hid hg
              clear hs hg hon
              by_cases m3 : 3 < zs.length
              · have HE := Lib.hid (HG'.out (row_long m3))
                generalize zs.length = m at *
                have j0 : (3 : Int) < (m : Int) := by omega
                go_wp2_with fail
                go_ret
                exact ⟨r_b HE.out.symm, HB.out⟩
              · by_cases m0 : on = false ∧ 0 < zs.length
                · obtain ⟨rfl, m0⟩ := m0
                  have HE := Lib.hid (HG'.out (row_dead m0))
                  generalize zs.length = m at *
                  have j0 : (0 : Int) < (m : Int) := by omega
                  have j3 : ¬ (3 : Int) < (m : Int) := by omega
                  go_wp2_with fail
                  go_ret
                  exact ⟨r_b HE.out.symm, HB.out⟩
                · have j3 : ¬ (3 : Int) < (zs.length : Int) := by omega
                  have hok := row_ok (l := h.l) (on := on) (zs := zs) (by omega) (by cases on; (right; intro h0; exact m0 ⟨rfl, h0⟩); (left; rfl))
                  have hbad := row_bad (l := h.l) (on := on) (zs := zs)
                  have hcall := s_l5Names _ _ h.l zs w0 L1.out HU.out (by omega) (by rw [HNL.out]; exact HNM.out)
                  generalize hx : refsB h.l zs = x at *
                  have HX := Lib.hid hx; have HOK := Lib.hid hok; have HBAD := Lib.hid hbad; have HC := Lib.hid hcall
                  clear hx hok hbad hcall
                  have j0 : on = false → ¬ (0 : Int) < (zs.length : Int) := fun h1 h2 => m0 ⟨h1, by omega⟩
                  have J0 := Lib.hid j0
                  clear m0 m3 j0
                  generalize zs.length = m at *
                  cases x
                  · have HE := Lib.hid (HG'.out (HBAD.out rfl))
                    cases on
                    · have j0 := J0.out rfl
                      obtain rfl : m = 0 := by omega
                      clear j0 J0
                      go_wp2_with (go_at_call 134; refine HC.out.mono ?_; rintro e w1 ⟨rfl, rfl⟩)
                      go_ret
                      exact ⟨r_b HE.out.symm, HB.out⟩
                    · go_wp2_with (go_at_call 134; refine HC.out.mono ?_; rintro e w1 ⟨rfl, rfl⟩)
                      go_ret
                      exact ⟨r_b HE.out.symm, HB.out⟩
                  · have HE : Hid (rowsB h.l h.f (k + 1) = true) := by unfold Hid; rw [HS.out]; exact HOK.out rfl
                    cases on
                    · have j0 := J0.out rfl
                      obtain rfl : m = 0 := by omega
                      clear j0 J0
                      go_wp2_with (go_at_call 134; refine HC.out.mono ?_; rintro e w1 ⟨rfl, rfl⟩)
                      go_round
                      case rel => exact ⟨k + 1, by omega, by go_num, HE.out⟩
                      case measure => simp [intOf]; omega
                    · go_wp2_with (go_at_call 134; refine HC.out.mono ?_; rintro e w1 ⟨rfl, rfl⟩)
                      go_round
                      case rel => exact ⟨k + 1, by omega, by go_num, HE.out⟩
                      case measure => simp [intOf]; omega
            · obtain rfl : k = n := by omega
              have HE := Lib.hid (HA.out ht.out)
              go_wp2_with fail
              go_ret
              exact ⟨r_b HE.out.symm, HB.out⟩
      · have HE := Lib.hid (HG4.out (by omega))
        have j4 : (4 : Int) < (nr : Int) := by omega
        clear HF HL HR R0
        go_enter Try.func86, Try.ntmps86
        go_wp2
        go_ret
        exact ⟨r_b HE.out.symm, HB.out⟩
    · have HE := Lib.hid (HLN.out n2)
      have i2 : ((nl : Int) != (n : Int)) = true := by rw [bne_iff_ne]; omega
      have i1 : ¬ (12 : Int) < (n : Int) := by omega
      clear n2 HF HL HR R0
      go_enter Try.func86, Try.ntmps86
      go_wp2
      go_ret
      exact ⟨r_b HE.out.symm, HB.out⟩
end Go.Proofs.Ytdagkbgobnaijab
