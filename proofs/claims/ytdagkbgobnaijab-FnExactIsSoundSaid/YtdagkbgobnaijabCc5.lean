/- The project's IsSound. -/
import Derived.Test.YtdagkbgobnaijabCs3
namespace Go.Proofs.Ytdagkbgobnaijab.Ph
/-- None of the references zs names a White object. -/
def noWhite (cs zs : List Int) : Bool := zs.all fun x => !(decide (0 ≤ x) && decide (cs.getD x.toNat 0 = 0))
theorem noWhite_take_succ {cs zs : List Int} {j : Nat} (h : j < zs.length) : noWhite cs (zs.take (j + 1)) = (noWhite cs (zs.take j) && !(decide (0 ≤ zs.getD j 0) && decide (cs.getD (zs.getD j 0).toNat 0 = 0))) := by
  have e : zs.getD j 0 = zs[j] := by simp [List.getD, List.getElem?_eq_getElem h]
  unfold noWhite
  rw [List.take_succ_eq_append_getElem h, List.all_append, e]; simp
theorem noWhite_false {cs zs : List Int} {j : Nat} (h : j < zs.length) (h0 : 0 ≤ zs.getD j 0) (hw : cs.getD (zs.getD j 0).toNat 0 = 0) : noWhite cs zs = false := by
  cases hq : noWhite cs zs with
  | false => rfl
  | true =>
    have e : zs.getD j 0 = zs[j] := by simp [List.getD, List.getElem?_eq_getElem h]
    have := (List.all_eq_true.1 hq) zs[j] (List.getElem_mem h)
    rw [← e, decide_eq_true h0, decide_eq_true hw] at this
    cases this
theorem soundB_iff {h : H} {cs : List Int} : soundB h cs = true ↔ ∀ k, k < h.f.length → cs.getD k 0 = 2 → noWhite cs (h.f.getD k []) = true := by
  unfold soundB noWhite
  simp only [List.all_eq_true, List.mem_range, Bool.not_eq_true', Bool.and_eq_false_imp, Bool.and_eq_true, decide_eq_true_eq, decide_eq_false_iff_not, and_imp]
  exact ⟨fun q k hk h2 x hx h0 => q k hk x hx h0 h2, fun q k hk x hx h0 h2 => q k hk h2 x hx h0⟩
theorem soundB_false {h : H} {cs : List Int} {k : Nat} (hk : k < h.f.length) (h2 : cs.getD k 0 = 2) (hn : noWhite cs (h.f.getD k []) = false) : soundB h cs = false := by
  cases hq : soundB h cs with
  | false => rfl
  | true => have := soundB_iff.1 hq k hk h2; rw [hn] at this; cases this
end Go.Proofs.Ytdagkbgobnaijab.Ph
namespace Go.Proofs.Ytdagkbgobnaijab
open Go.RowKit Ph

theorem soundR_no {h : H} {cs : List Int} (k : bothB h cs = false) : soundR h cs = false := by unfold soundR; rw [k]; rfl
theorem soundR_yes {h : H} {cs : List Int} (k : bothB h cs = true) : soundR h cs = soundB h cs := by unfold soundR; rw [k]; rfl
theorem r_bb {a a' b b' : Bool} (h : a = a') (k : b = b') : Ending.returned (.tuple #[.bool a, .bool b]) = .returned (.tuple #[.bool a', .bool b']) := by rw [h, k]
set_option maxRecDepth 100000 in
set_option maxHeartbeats 3200000 in
theorem c_IsSound (a b c v : Value) (h : H) (cs : List Int) (w : World) (hA : HeapAt w a b c h) (hz : IntsAt w v cs) : Calls Try.prog 35 #[hv a b c, v] w fun e w' => e = .returned (.tuple #[.bool (soundR h cs), .bool (bothB h cs)]) ∧ Below w.heap.size w w' := by
  have hb0 := below1 w (.cells (c3 a b c) 27)
  have A0 := Lib.hid (hA.below hb0)
  have Z0 := Lib.hid (hz.below hb0)
  have HB := Lib.hid hb0
  have R0 := Lib.hid (show RowH _ _ a b c from Row.new w 27 (c3 a b c))
  have HF := Lib.hid hA.f
  have HZW := Lib.hid hz
  clear hA hb0
  have HC := Lib.hid (c_areColoursOf a b c v h cs _ A0.out Z0.out)
  have HE1 := Lib.hid (soundR_no (h := h) (cs := cs))
  have HE2 := Lib.hid (soundR_yes (h := h) (cs := cs))
  have HBB := Lib.hid (bothB_iff (h := h) (cs := cs)).1
  obtain ⟨va, vc, rfl⟩ := hz.shape
  clear hz
  generalize hx : bothB h cs = x at *
  have HX := Lib.hid hx; clear hx
  have c0 := R0.out.c0
  have c1 := R0.out.c1
  have c2 := R0.out.c2
  cases x
  · have HR := Lib.hid (HE1.out rfl)
    go_enter Try.func35, Try.ntmps35
    go_wp2_with (go_at_call 79; refine HC.out.mono ?_; rintro e w1 ⟨rfl, hb1⟩; have B1 := Lib.hid (bst HB.out hb1 HB.out.size); clear hb1)
    go_ret2
    exact ⟨r_bb HR.out.symm rfl, B1.out⟩
  have HR := Lib.hid (HE2.out rfl)
  obtain ⟨hG, hlen, hcol⟩ := HBB.out rfl
  have hn12 : cs.length ≤ 12 := by rw [hlen]; exact hG.n
  have HIN : Hid (∀ k, ∀ z ∈ h.f.getD k [], inR cs.length z) := fun k z hz => by rw [hlen]; exact (hG.field hz).imp id (fun h => ⟨h.1, h.2.1⟩)
  have HRL : Hid (∀ k, k < h.f.length → (h.f.getD k []).length ≤ 3) := fun k hk => (hG.row k hk).1
  have HSF : Hid (∀ k, k < cs.length → cs.getD k 0 = 2 → noWhite cs (h.f.getD k []) = false → soundB h cs = false) := fun k hk => soundB_false (by rw [← hlen]; exact hk)
  have HST : Hid ((∀ z ∈ ofC cs 2, noWhite cs (h.f.getD z.toNat []) = true) → soundB h cs = true) := fun q => soundB_iff.2 fun k hk h2 => q (k : Int) (mem_ofC.2 ⟨k, by rw [hlen]; exact hk, h2, rfl⟩)
  have HMC : Hid (∀ z ∈ ofC cs 2, ∃ k : Nat, z = k ∧ k < cs.length ∧ cs.getD k 0 = 2) := fun z hz => by obtain ⟨i, h1, h2, h3⟩ := mem_ofC.1 hz; exact ⟨i, h3, h1, h2⟩
  have HTL : Hid ((ofC cs 2).length ≤ 12) := Nat.le_trans (ofTo_len _ _ _) hn12
  obtain ⟨fa, fc, rfl⟩ := HF.out.shape
  clear hG hcol HBB
  rw [← hlen] at *
  clear hlen
  generalize hn : cs.length = n at *
  have HN := Lib.hid hn; clear hn
  go_enter Try.func35, Try.ntmps35
  go_wp2_with (go_at_call 79; refine HC.out.mono ?_; rintro e w1 ⟨rfl, hb1⟩; have B1 := Lib.hid (bst HB.out hb1 HB.out.size); have Z1 := Lib.hid (Z0.out.below hb1); have R1 := Lib.hid (R0.out.below hb1); have d0 := R1.out.c0; clear hb1)
  refine (c_thingsOf _ cs 2 _ Z1.out (by rw [HN.out]; exact hn12)).mono ?_
  rintro e w2 ⟨v2, rfl, ho2, hb2⟩
  have B2 := Lib.hid (bst B1.out hb2 B1.out.size)
  have R2 := Lib.hid (R1.out.below hb2)
  have T2 := Lib.hid ho2.ints
  have Z2 := Lib.hid (Z1.out.below hb2)
  obtain ⟨ta, tc, rfl⟩ := ho2.ints.shape
  clear ho2 hb2 d0 c0 c1 c2
  have d0 := R2.out.c0
  generalize ofC cs 2 = ts at *
  generalize hm : ts.length = m at *
  have HM := Lib.hid hm; clear hm
  have hm12 := HTL.out
  go_wp2_with fail
  go_loop [17] (fun i => ∃ j : Nat, j ≤ m ∧ i = .int .i64 j ∧ Hid (∀ z ∈ ts.take j, noWhite cs (h.f.getD z.toNat []) = true)) (fun i => m - (intOf i).toNat)
  case atStart => exact ⟨0, Nat.zero_le _, rfl, fun z hz => by simp at hz⟩
  case round =>
    obtain ⟨j, hj, rfl, hdone⟩ := hrel
    by_cases hlt : j < m
    · obtain ⟨tb, to, rfl, hct⟩ := T2.out.at' (by omega)
      have q := hct j hlt
      have hjl : j < ts.length := by rw [HM.out]; exact hlt
      obtain ⟨k, hzk, hkn, hk2⟩ := HMC.out (ts.getD j 0) (by rw [List.getD, List.getElem?_eq_getElem hjl]; exact List.getElem_mem hjl)
      have HTK := Lib.hid (mem_take_succ hjl)
      rw [hzk] at q
      have HZK := Lib.hid hzk
      obtain ⟨fb, fo, rfl, hcf⟩ := HF.out.at' (by omega)
      obtain ⟨u, quf, huf⟩ := hcf k hkn
      have HU := Lib.hid huf
      have qu := cellBelow B2.out (Nat.le_refl _) quf
      have HSN := Lib.hid (HSF.out k hkn hk2)
      have HINK := Lib.hid (HIN.out k)
      have hl3 := HRL.out k hkn
      obtain ⟨ua, uc, rfl⟩ := huf.shape
      have j1 : (j : Int) < (m : Int) := by omega
      have k1 : (k : Int) < (n : Int) := by omega
      have k0 : (0 : Int) ≤ (k : Int) := by omega
      clear hct hjl hzk hk2 hcf quf huf
      generalize hrow : h.f.getD k [] = row at *
      have HROW := Lib.hid hrow; clear hrow
      generalize hul : row.length = ul at *
      have HUL := Lib.hid hul; clear hul
      go_wp2_with fail
      go_loop [27] (fun i => ∃ p : Nat, p ≤ ul ∧ i = .int .i64 p ∧ Hid (noWhite cs (row.take p) = true)) (fun i => ul - (intOf i).toNat)
      case atStart => exact ⟨0, Nat.zero_le _, rfl, by rw [List.take_zero]; rfl⟩
      case round =>
        obtain ⟨p, hp, rfl, hnw⟩ := hrel
        by_cases hpl : p < ul
        · obtain ⟨zb, zo, rfl, hcz⟩ := HU.out.at' (by omega)
          have qz := cellBelow B2.out (Nat.le_refl _) (hcz p hpl)
          have hpr : p < row.length := by rw [HUL.out]; exact hpl
          have hin := HINK.out (row.getD p 0) (by rw [List.getD, List.getElem?_eq_getElem hpr]; exact List.getElem_mem hpr)
          have HNS := Lib.hid (noWhite_take_succ (cs := cs) hpr)
          have HNF := Lib.hid (noWhite_false (cs := cs) hpr)
          have p1 : (p : Int) < (ul : Int) := by omega
          clear hcz hpr
          generalize row.getD p 0 = z at *
          by_cases z1 : z = -1
          · subst z1
            have HE : Hid (noWhite cs (row.take (p + 1)) = true) := by unfold Hid; rw [HNS.out, hnw.out]; rfl
            clear hin HNS HNF
            go_wp2_with fail
            go_round
            case rel => exact ⟨p + 1, by omega, by go_num, HE⟩
            case measure => simp [intOf]; omega
          · obtain ⟨t, rfl⟩ : ∃ t : Nat, z = t := ⟨z.toNat, by rcases hin with h | h <;> omega⟩
            have htn : t < n := by rcases hin with h | h <;> omega
            have i2 : ((t : Int) == -1) = false := by simp
            obtain ⟨vb, vo, rfl, hcv⟩ := Z2.out.at' (by omega)
            have qv := hcv t htn
            have t1 : (t : Int) < (n : Int) := by omega
            have t0 : (0 : Int) ≤ (t : Int) := by omega
            rw [Int.toNat_natCast] at *
            clear hin z1 hcv
            generalize cs.getD t 0 = y at *
            by_cases hy : y = 0
            · subst hy
              have HE : Hid (soundB h cs = false) := HSN.out (HNF.out t0 rfl)
              have HR2 : Hid (soundR h cs = false) := HR.out.trans HE.out
              clear HNS HNF HE
              go_wp2_with fail
              go_ret2
              exact ⟨r_bb HR2.out.symm rfl, B2.out⟩
            · have HE : Hid (noWhite cs (row.take (p + 1)) = true) := by unfold Hid; rw [HNS.out, hnw.out, decide_eq_false hy]; simp
              have hy1 : (y == 0) = false := by simpa using hy
              clear HNS HNF hy
              go_wp2_with fail
              go_round
              case rel => exact ⟨p + 1, by omega, by go_num, HE⟩
              case measure => simp [intOf]; omega
        · have hpe : Hid (row.take p = row) := List.take_of_length_le (by rw [HUL.out]; omega)
          have HD : Hid (∀ z ∈ ts.take (j + 1), noWhite cs (h.f.getD z.toNat []) = true) := fun z hz => by
            rcases (HTK.out z).1 hz with e | e
            · exact hdone.out z e
            · rw [e, HZK.out, Int.toNat_natCast, HROW.out, ← hpe.out]; exact hnw.out
          go_wp2_with fail
          go_round
          case rel => exact ⟨j + 1, by omega, by go_num, HD⟩
          case measure => simp [intOf]; omega
    · have hje : Hid (ts.take j = ts) := List.take_of_length_le (by rw [HM.out]; omega)
      have HE : Hid (soundR h cs = true) := HR.out.trans (HST.out (by rw [← hje.out]; exact hdone.out))
      go_wp2_with fail
      go_ret2
      exact ⟨r_bb HE.out.symm rfl, B2.out⟩
end Go.Proofs.Ytdagkbgobnaijab
