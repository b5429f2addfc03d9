/- The reference's IsSound. -/
import Derived.Test.YtdagkbgobnaijabCc5
namespace Go.Proofs.Ytdagkbgobnaijab
open Go.RowKit Ph

set_option maxRecDepth 100000 in
set_option maxHeartbeats 3200000 in
theorem s_IsSound (a b c v : Value) (h : H) (cs : List Int) (w : World) (hA : HeapAt w a b c h) (hz : IntsAt w v cs) : Calls Try.prog 52 #[hv a b c, v] w fun e w' => e = .returned (.tuple #[.bool (soundR h cs), .bool (bothB h cs)]) ∧ Below w.heap.size w w' := by
  have hb0 := below1 w (.cells (c3 a b c) 27)
  have A0 := Lib.hid (hA.below hb0)
  have Z0 := Lib.hid (hz.below hb0)
  have HB := Lib.hid hb0
  have R0 := Lib.hid (show RowH _ _ a b c from Row.new w 27 (c3 a b c))
  have HF := Lib.hid hA.f
  clear hA hb0
  have HC := Lib.hid (s_l6Both a b c v h cs _ A0.out Z0.out)
  have HE1 := Lib.hid (soundR_no (h := h) (cs := cs))
  have HE2 := Lib.hid (soundR_yes (h := h) (cs := cs))
  have HBB := Lib.hid (bothB_iff (h := h) (cs := cs)).1
  obtain ⟨va, vc, rfl⟩ := hz.shape
  clear hz
  generalize hx : bothB h cs = x at *
  have HX := Lib.hid hx; clear hx
  have c0 := R0.out.c0
  have c1 := R0.out.c1
  have c2 := R0.out.c2
  cases x
  · have HR := Lib.hid (HE1.out rfl)
    go_enter Try.func52, Try.ntmps52
    go_wp2_with (go_at_call 80; refine HC.out.mono ?_; rintro e w1 ⟨rfl, hb1⟩; have B1 := Lib.hid (bst HB.out hb1 HB.out.size); clear hb1)
    go_ret2
    exact ⟨r_bb HR.out.symm rfl, B1.out⟩
  have HR := Lib.hid (HE2.out rfl)
  obtain ⟨hG, hlen, hcol⟩ := HBB.out rfl
  have hn12 : cs.length ≤ 12 := by rw [hlen]; exact hG.n
  have HIN : Hid (∀ k, ∀ z ∈ h.f.getD k [], inR cs.length z) := fun k z hz => by rw [hlen]; exact (hG.field hz).imp id (fun h => ⟨h.1, h.2.1⟩)
  have HRL : Hid (∀ k, k < h.f.length → (h.f.getD k []).length ≤ 3) := fun k hk => (hG.row k hk).1
  have HSF : Hid (∀ k, k < cs.length → cs.getD k 0 = 2 → noWhite cs (h.f.getD k []) = false → soundB h cs = false) := fun k hk => soundB_false (by rw [← hlen]; exact hk)
  have HST : Hid ((∀ k, k < cs.length → cs.getD k 0 = 2 → noWhite cs (h.f.getD k []) = true) → soundB h cs = true) := fun q => soundB_iff.2 fun k hk h2 => q k (by rw [hlen]; exact hk) h2
  obtain ⟨fa, fc, rfl⟩ := HF.out.shape
  clear hG hcol HBB
  rw [← hlen] at *
  clear hlen
  generalize hn : cs.length = n at *
  have HN := Lib.hid hn; clear hn
  go_enter Try.func52, Try.ntmps52
  go_wp2_with (go_at_call 80; refine HC.out.mono ?_; rintro e w1 ⟨rfl, hb1⟩; have B1 := Lib.hid (bst HB.out hb1 HB.out.size); have Z1 := Lib.hid (Z0.out.below hb1); have R1 := Lib.hid (R0.out.below hb1); have d0 := R1.out.c0; clear hb1)
  clear c0 c1 c2
  go_loop [17] (fun i => ∃ j : Nat, j ≤ n ∧ i = .int .i64 j ∧ Hid (∀ k, k < j → cs.getD k 0 = 2 → noWhite cs (h.f.getD k []) = true)) (fun i => n - (intOf i).toNat)
  case atStart => exact ⟨0, Nat.zero_le _, rfl, fun k hk => by omega⟩
  case round =>
    obtain ⟨k, hj, rfl, hdone⟩ := hrel
    by_cases hlt : k < n
    · obtain ⟨fb, fo, rfl, hcf⟩ := HF.out.at' (by omega)
      obtain ⟨u, quf, huf⟩ := hcf k hlt
      have HU := Lib.hid huf
      have qu := cellBelow B1.out (Nat.le_refl _) quf
      have HSN := Lib.hid (HSF.out k hlt)
      have HINK := Lib.hid (HIN.out k)
      have hl3 := HRL.out k hlt
      obtain ⟨ua, uc, rfl⟩ := huf.shape
      obtain ⟨vb, vo, rfl, hcv⟩ := Z1.out.at' (by omega)
      have HCV := Lib.hid hcv
      have qk := hcv k hlt
      have k1 : (k : Int) < (n : Int) := by omega
      have k0 : (0 : Int) ≤ (k : Int) := by omega
      clear hcf quf huf hcv
      generalize hrow : h.f.getD k [] = row at *
      have HROW := Lib.hid hrow; clear hrow
      generalize hul : row.length = ul at *
      have HUL := Lib.hid hul; clear hul
      generalize hck : cs.getD k 0 = ck at *
      have HCK := Lib.hid hck; clear hck
      go_wp2_with fail
      go_loop [24] (fun i => ∃ p : Nat, p ≤ ul ∧ i = .int .i64 p ∧ Hid (ck = 2 → noWhite cs (row.take p) = true)) (fun i => ul - (intOf i).toNat)
      case atStart => exact ⟨0, Nat.zero_le _, rfl, fun _ => by rw [List.take_zero]; rfl⟩
      case round =>
        obtain ⟨p, hp, rfl, hnw⟩ := hrel
        by_cases hpl : p < ul
        · obtain ⟨zb, zo, rfl, hcz⟩ := HU.out.at' (by omega)
          have qz := cellBelow B1.out (Nat.le_refl _) (hcz p hpl)
          have hpr : p < row.length := by rw [HUL.out]; exact hpl
          have hin := HINK.out (row.getD p 0) (by rw [List.getD, List.getElem?_eq_getElem hpr]; exact List.getElem_mem hpr)
          have HNS := Lib.hid (noWhite_take_succ (cs := cs) hpr)
          have HNF := Lib.hid (noWhite_false (cs := cs) hpr)
          have p1 : (p : Int) < (ul : Int) := by omega
          clear hcz hpr
          generalize row.getD p 0 = z at *
          by_cases z1 : z = -1
          · subst z1
            have HE : Hid (ck = 2 → noWhite cs (row.take (p + 1)) = true) := fun e => by rw [HNS.out, hnw.out e]; rfl
            clear hin HNS HNF
            go_wp2_with fail
            go_round
            case rel => exact ⟨p + 1, by omega, by go_num, HE⟩
            case measure => simp [intOf]; omega
          · obtain ⟨t, rfl⟩ : ∃ t : Nat, z = t := ⟨z.toNat, by rcases hin with h | h <;> omega⟩
            have htn : t < n := by rcases hin with h | h <;> omega
            have qv := HCV.out t htn
            have t1 : (t : Int) < (n : Int) := by omega
            have t0 : (0 : Int) ≤ (t : Int) := by omega
            rw [Int.toNat_natCast] at *
            clear hin z1
            by_cases hc2 : ck = 2
            · subst hc2
              generalize cs.getD t 0 = y at *
              by_cases hy : y = 0
              · subst hy
                have HE : Hid (soundB h cs = false) := HSN.out rfl (HNF.out t0 rfl)
                have HR2 : Hid (soundR h cs = false) := HR.out.trans HE.out
                clear HNS HNF HE hnw
                go_wp2_with fail
                go_ret2
                exact ⟨r_bb HR2.out.symm rfl, B1.out⟩
              · have HE : Hid (noWhite cs (row.take (p + 1)) = true) := by unfold Hid; rw [HNS.out, hnw.out rfl, decide_eq_false hy]; simp
                have hy1 : (y == 0) = false := by simpa using hy
                clear HNS HNF hy hnw
                go_wp2_with fail
                go_round
                case rel => exact ⟨p + 1, by omega, by go_num, fun _ => HE.out⟩
                case measure => simp [intOf]; omega
            · have hc3 : (ck == 2) = false := by simpa using hc2
              have HE : Hid (ck = 2 → noWhite cs (row.take (p + 1)) = true) := fun e => absurd e hc2
              clear HNS HNF hc2 hnw qv
              go_wp2_with fail
              go_round
              case rel => exact ⟨p + 1, by omega, by go_num, HE⟩
              case measure => simp [intOf]; omega
        · have hpe : Hid (row.take p = row) := List.take_of_length_le (by rw [HUL.out]; omega)
          have HD : Hid (∀ i, i < k + 1 → cs.getD i 0 = 2 → noWhite cs (h.f.getD i []) = true) := fun i hi h2 => by
            by_cases e : i = k
            · subst e
              rw [HROW.out, ← hpe.out]
              exact hnw.out (by rw [← HCK.out]; exact h2)
            · exact hdone.out i (by omega) h2
          go_wp2_with fail
          go_round
          case rel => exact ⟨k + 1, by omega, by go_num, HD⟩
          case measure => simp [intOf]; omega
    · have HE : Hid (soundR h cs = true) := HR.out.trans (HST.out (fun i hi => hdone.out i (by omega)))
      go_wp2_with fail
      go_ret2
      exact ⟨r_bb HE.out.symm rfl, B1.out⟩
end Go.Proofs.Ytdagkbgobnaijab
