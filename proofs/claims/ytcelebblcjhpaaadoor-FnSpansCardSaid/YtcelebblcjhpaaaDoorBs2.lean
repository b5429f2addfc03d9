/- Contracts of chapter 2: the reference's GoodBits, NewBits, IsSet, CountSet. -/
import Derived.Test.YtcelebblcjhpaaaDoorBs1
namespace Go.Proofs.YtcelebblcjhpaaaDoor
open Go.RowKit Pb

def GoodEnd (long : Int) (zs : List Int) (w : World) (e : Ending) (w' : World) : Prop :=
  ((Bok long zs ∧ e = .returned (.bool true)) ∨ (¬ Bok long zs ∧ e = .returned (.bool false))) ∧ Below w.heap.size w w'
theorem all_iff {zs : List Int} : (∀ k, k < zs.length → (0 : Int) ≤ zs.getD k 0 ∧ zs.getD k 0 ≤ 65535) ↔ ∀ k, k < zs.length → W16 (zs.getD k 0) := Iff.rfl

set_option maxHeartbeats 800000 in
theorem c_sGoodBits_out (long : Int) (v : Value) (zs : List Int) (w : World) (hv : IntsAt w v zs) (hn : ¬ (0 ≤ long ∧ long ≤ 96)) : Calls Tryd.prog 58 #[bm long v] w (GoodEnd long zs w) := by
  obtain ⟨a, ca, rfl, hv⟩ := hv
  clear hv
  have hG : ¬ Bok long zs := fun h => hn ⟨h.1, h.2.1⟩
  generalize zs.length = n at *
  go_enter Tryd.func58, Tryd.ntmps58
  go_wp2_with fail
  go_quiet ((go_at_call 60; exact quiet_same' (c_in_no _ _ _ _ hn)))
  go_wp2
  go_ret
  exact ⟨.inr ⟨hG, rfl⟩, below_drewN ((Below.refl _ _).alloc (Nat.le_refl _) _) _⟩
set_option maxHeartbeats 800000 in
theorem c_sGoodBits_len (long : Int) (v : Value) (zs : List Int) (w : World) (hv : IntsAt w v zs) (hn : 0 ≤ long ∧ long ≤ 96) (hl : (zs.length : Int) ≠ (long + 15) / 16) : Calls Tryd.prog 58 #[bm long v] w (GoodEnd long zs w) := by
  obtain ⟨a, ca, rfl, hv⟩ := hv
  clear hv
  have hG : ¬ Bok long zs := fun h => hl h.2.2.1
  generalize zs.length = n at *
  have hne : ((n : Int) != (long + 15) / 16) = true := by rw [bne_iff_ne]; exact hl
  clear hl
  obtain ⟨hn0, hn1⟩ := id hn
  go_enter Tryd.func58, Tryd.ntmps58
  go_wp2_with fail
  go_quiet ((first | (go_at_call 60; exact quiet_same' (c_in_yes _ _ _ _ hn)) | (go_at_call 94; exact quiet_same' (c_l2Words _ _ hn0 (by omega)))))
  go_wp2
  go_ret
  exact ⟨.inr ⟨hG, rfl⟩, below_drewN ((Below.refl _ _).alloc (Nat.le_refl _) _) _⟩
set_option maxHeartbeats 800000 in
theorem c_sGoodBits_bad (long : Int) (v : Value) (zs : List Int) (w : World) (hv : IntsAt w v zs) (hn : 0 ≤ long ∧ long ≤ 96) (hl : (zs.length : Int) = (long + 15) / 16) (hw : ¬ ∀ k, k < zs.length → W16 (zs.getD k 0)) : Calls Tryd.prog 58 #[bm long v] w (GoodEnd long zs w) := by
  have HA : Hid (∀ w' : World, IntsAt w' v zs → Calls Tryd.prog 95 #[v, .int .i64 0, .int .i64 65535] w' fun e w'' => e = .returned (.bool false) ∧ w' = w'') := fun w' h => c_l1All v zs 0 65535 w' h (by omega) false (by constructor; (intro h; cases h); (intro h; exact absurd h hw))
  have HV := Lib.hid (hv.below ((Below.refl w.heap.size w).alloc (Nat.le_refl _) (.cells (cb long v) 25)))
  obtain ⟨a, ca, rfl, hv⟩ := hv
  clear hv
  have hG : ¬ Bok long zs := fun h => hw h.2.2.2.1
  have HZ : Hid (zs.length = zs.length) := rfl
  have hn6 : zs.length ≤ 6 := by omega
  have hne : ((zs.length : Int) != (long + 15) / 16) = false := by rw [hl]; simp
  generalize zs.length = n at *
  clear hl hw HZ
  obtain ⟨hn0, hn1⟩ := id hn
  go_enter Tryd.func58, Tryd.ntmps58
  go_wp2_with fail
  go_quiet ((first | (go_at_call 60; exact quiet_same' (c_in_yes _ _ _ _ hn)) | (go_at_call 94; exact quiet_same' (c_l2Words _ _ hn0 (by omega))) | (go_at_call 95; exact quiet_same' (HA.out _ (HV.out.drewN _)))))
  go_wp2
  go_ret
  exact ⟨.inr ⟨hG, rfl⟩, below_drewN ((Below.refl _ _).alloc (Nat.le_refl _) _) _⟩
set_option maxHeartbeats 1600000 in
theorem c_sGoodBits_in (long : Int) (v : Value) (zs : List Int) (w : World) (hv : IntsAt w v zs) (hn : 0 ≤ long ∧ long ≤ 96) (hl : (zs.length : Int) = (long + 15) / 16) (hw : ∀ k, k < zs.length → W16 (zs.getD k 0)) : Calls Tryd.prog 58 #[bm long v] w (GoodEnd long zs w) := by
  have HA : Hid (∀ w' : World, IntsAt w' v zs → Calls Tryd.prog 95 #[v, .int .i64 0, .int .i64 65535] w' fun e w'' => e = .returned (.bool true) ∧ w' = w'') := fun w' h => c_l1All v zs 0 65535 w' h (by omega) true (by constructor; (intro _; exact hw); (intro _; rfl))
  have HV := Lib.hid (hv.below ((Below.refl w.heap.size w).alloc (Nat.le_refl _) (.cells (cb long v) 25)))
  have HV0 := Lib.hid hv
  obtain ⟨a, ca, rfl, hv⟩ := hv
  clear hv
  have HW := Lib.hid hw
  have HL := Lib.hid hl
  have hn6 : zs.length ≤ 6 := by omega
  have hlo : long ≤ 16 * zs.length := by omega
  have hne : ((zs.length : Int) != (long + 15) / 16) = false := by rw [hl]; simp
  obtain ⟨n, hzn⟩ : ∃ n, n = zs.length := ⟨_, rfl⟩
  have HN := Lib.hid hzn
  rw [← hzn] at hn6 hlo hne HV HV0 HA ⊢
  clear hl hw hzn
  obtain ⟨hn0, hn1⟩ := id hn
  go_enter Tryd.func58, Tryd.ntmps58
  go_wp2_with fail
  go_quiet ((first | (go_at_call 60; exact quiet_same' (c_in_yes _ _ _ _ hn)) | (go_at_call 94; exact quiet_same' (c_l2Words _ _ hn0 (by omega))) | (go_at_call 95; exact quiet_same' (HA.out _ (HV.out.drewN _)))))
  go_wp2
  clear hne
  go_loopw [3] (fun i wr => ∃ p : Nat, long ≤ p ∧ (p : Int) ≤ 16 * n ∧ i = .int .i64 p ∧ Hid (∀ k : Nat, long ≤ k → k < p → bitL zs k = false) ∧ RowB wr w.heap.size long (.slice a n ca) ∧ Below w.heap.size w wr) (fun i _ => 16 * n - (intOf i).toNat)
  case atStart => exact ⟨long.toNat, by omega, by omega, by rw [Int.toNat_of_nonneg hn0], fun k h1 h2 => by omega, Row.new w _ _, below_drewN ((Below.refl _ _).alloc (Nat.le_refl _) _) _⟩
  case round =>
    obtain ⟨p, hp0, hp1, rfl, hz, hr, hb⟩ := hrel
    have q0 := hr.c0
    have q1 := hr.c1
    by_cases hlt : (p : Int) < n * 16
    · have HI := Lib.hid (HV0.out.below hb)
      have HR := Lib.hid hr; have HB := Lib.hid hb
      clear hr hb
      go_wp2_with fail
      refine (c_l2Is long _ zs p wr HI.out (by rw [← HN.out]; omega) (by rw [← HN.out]; omega) (HW.out _ (by rw [← HN.out]; omega))).mono ?_
      rintro e w2 ⟨rfl, hb2⟩
      have HR2 := Lib.hid (Row.below HR.out hb2)
      have HB2 := Lib.hid (bstep' HB.out hb2 HB.out.size)
      clear hb2 q0 q1
      cases hq : bitL zs p
      · have HZ2 : Hid (∀ k : Nat, long ≤ k → k < p + 1 → bitL zs k = false) := fun k h1 h2 => by
          by_cases e : k = p
          · rw [e]; exact hq
          · exact hz.out k h1 (by omega)
        clear hq hz
        go_wp2
        go_roundw
        case rel => exact ⟨p + 1, by omega, by omega, by go_num, HZ2.out, HR2.out, HB2.out⟩
        case measure => simp [intOf]; omega
      · have hG : ¬ Bok long zs := fun h => by rw [h.2.2.2.2 p hp0] at hq; cases hq
        clear hq hz
        go_wp2
        go_ret
        exact ⟨.inr ⟨hG, rfl⟩, HB2.out⟩
    · have hG : Bok long zs := ⟨hn0, hn1, HL.out, HW.out, fun k hk => by
        by_cases h : k < p
        · exact hz.out k hk h
        · exact bitL_end (by rw [← HN.out]; omega)⟩
      go_wp2
      go_ret
      exact ⟨.inl ⟨hG, rfl⟩, hb⟩
theorem c_sGoodBits (long : Int) (v : Value) (zs : List Int) (w : World) (hv : IntsAt w v zs) : Calls Tryd.prog 58 #[bm long v] w (GoodEnd long zs w) := by
  by_cases hn : 0 ≤ long ∧ long ≤ 96
  · by_cases hl : (zs.length : Int) = (long + 15) / 16
    · by_cases hw : ∀ k, k < zs.length → W16 (zs.getD k 0)
      · exact c_sGoodBits_in long v zs w hv hn hl hw
      · exact c_sGoodBits_bad long v zs w hv hn hl hw
    · exact c_sGoodBits_len long v zs w hv hn hl
  · exact c_sGoodBits_out long v zs w hv hn
theorem c_sGoodBits_yes (long : Int) (v : Value) (zs : List Int) (w : World) (hv : IntsAt w v zs) (hB : Bok long zs) : Calls Tryd.prog 58 #[bm long v] w fun e w' => e = .returned (.bool true) ∧ Below w.heap.size w w' :=
  (c_sGoodBits long v zs w hv).mono fun _ _ ⟨h, hb⟩ => ⟨by rcases h with ⟨_, h⟩ | ⟨h, _⟩; (exact h); exact absurd hB h, hb⟩
theorem c_sGoodBits_no (long : Int) (v : Value) (zs : List Int) (w : World) (hv : IntsAt w v zs) (hB : ¬ Bok long zs) : Calls Tryd.prog 58 #[bm long v] w fun e w' => e = .returned (.bool false) ∧ Below w.heap.size w w' :=
  (c_sGoodBits long v zs w hv).mono fun _ _ ⟨h, hb⟩ => ⟨by rcases h with ⟨h, _⟩ | ⟨_, h⟩; (exact absurd h hB); exact h, hb⟩
end Go.Proofs.YtcelebblcjhpaaaDoor
