/- Contracts of chapter 2: the reference's SetRun and NewBits. -/
import Derived.Test.YtcelebblcjhpaaaDoorBs4
namespace Go.Proofs.YtcelebblcjhpaaaDoor
open Go.RowKit Pb

theorem Own.some {w : World} {B : Nat} {v : Value} {zs : List Int} (h : Own w B v zs) (h0 : 0 < zs.length) : ∃ g c, v = .slice (some ⟨g, 0, none⟩) zs.length c ∧ B ≤ g := by
  obtain ⟨h1, h2⟩ := h
  rcases h2 with ⟨rfl, h2⟩ | ⟨g, cap, cur, rfl, hg, hh, _⟩
  · omega
  · exact ⟨g, cap, rfl, hg⟩

set_option maxHeartbeats 800000 in
theorem c_sNewBits_no (long : Int) (w : World) (h : ¬ (0 ≤ long ∧ long ≤ 96)) : Calls Tryd.prog 74 #[.int .i64 long] w fun e w' => e = .returned (.tuple #[bm 0 (.slice none 0 0), .bool false]) ∧ Below w.heap.size w w' := by
  go_enter Tryd.func74, Tryd.ntmps74
  go_wp2_with fail
  refine (c_in_no _ _ _ _ h).mono ?_
  rintro e w1 ⟨rfl, rfl⟩
  go_wp2
  exact bodyPost_ret (v := .tuple #[bm 0 (.slice none 0 0), .bool false]) (by simp [results, Tryd.results74, go_sem]) rfl ⟨rfl, (Below.refl _ _).alloc (Nat.le_refl _) _⟩
set_option maxHeartbeats 800000 in
theorem c_sNewBits_yes (long : Int) (w : World) (h0 : 0 ≤ long) (h1 : long ≤ 96) : Calls Tryd.prog 74 #[.int .i64 long] w fun e w' => ∃ v, e = .returned (.tuple #[bm long v, .bool true]) ∧ Own w' w.heap.size v (wl ((long + 15) / 16).toNat fun _ => 0) ∧ Below w.heap.size w w' := by
  obtain ⟨i0, hi, hz0, hz1, hz2⟩ := info_parts info_int
  have hn : ∃ n : Nat, (long + 15) / 16 = n ∧ n ≤ 6 := ⟨((long + 15) / 16).toNat, by omega, by omega⟩
  obtain ⟨n, hn, hn6⟩ := hn
  rw [show ((long + 15) / 16).toNat = n by omega]
  have HN := Lib.hid hn; clear hn
  go_enter Tryd.func74, Tryd.ntmps74
  go_wp2_with (first
    | (go_at_call 60; refine (c_in_yes _ _ _ _ ⟨h0, h1⟩).mono ?_; rintro e w' ⟨rfl, rfl⟩)
    | (go_at_call 94; refine (c_l2Words _ _ h0 (by omega)).mono ?_; rintro e w' ⟨rfl, rfl⟩; rw [HN.out])
    | (refine wpList_make_full _ rfl _ _ 23 rfl w.heap.size 3 i0 (.int .i64 0) 1 Tryd.underlying23 hi hz0 hz1 .i64 .i64 _ _ n rfl rfl rfl rfl (by rw [hz2]; omega) (by unfold maxLen; omega) (by simp) ?_; intro w1 hown hgr; rw [Nat.mul_one, show (Value.int .i64 0).cells = #[.int .i64 0] from rfl, toList_madeCells_one, World.size_alloc] at hown; have hr := Row.grown (Row.new w 25 (cb 0 (.slice none 0 0))) hgr; have hb := ((Below.refl w.heap.size w).alloc (Nat.le_refl _) _).grown hgr (by simp) (fun k hk => by cases hk); have HO := Lib.hid hown; clear hown hgr)
    | (refine wl_storeB rfl _ _ rfl w.heap.size long _ _ _ hr rfl rfl rfl ?_))
  refine bodyPost_ret (res_row_slot Tryd.results74 (Row.put hr (cb long _)) rfl rfl Tryd.underlying25 rfl info_bits) rfl ⟨_, rfl, ?_, below_setRow hb (Nat.le_refl _) _⟩
  have : Own w1 w.heap.size (.slice (Option.some ⟨w.heap.size + 1, 0, none⟩) n n) (wl n fun _ => 0) := by
    have e : wl n (fun _ => (0 : Int)) = List.replicate n 0 := List.ext_getElem (by simp [wl]) (by intros; simp [wl])
    unfold Own
    rw [wl_length, e, List.map_replicate]
    exact HO.out
  exact Own.setRow this (by simp)

set_option maxHeartbeats 800000 in
theorem c_sSetRun_no (long : Int) (v : Value) (zs : List Int) (a b : Int) (on : Bool) (w : World) (hv : IntsAt w v zs) (hN : ¬ (Bok long zs ∧ InRun long a b)) : Calls Tryd.prog 103 #[bm long v, .int .i64 a, .int .i64 b, .bool on] w fun e w' => e = .returned (.tuple #[bm 0 (.slice none 0 0), .bool false]) ∧ Below w.heap.size w w' := by
  have HB := Lib.hid (((Below.refl w.heap.size w).alloc (Nat.le_refl _) (.cells (cb long v) 25)).alloc (by simp) (.cells (cb 0 (.slice none 0 0)) 25))
  have hv' := Lib.hid (hv.below HB.out); clear hv
  have s0 : RowB ((w.alloc (.cells (cb long v) 25)).alloc (.cells (cb 0 (.slice none 0 0)) 25)) (w.heap.size + 1) 0 (.slice none 0 0) := Row.new1 w _ _ _
  go_enter Tryd.func103, Tryd.ntmps103
  go_wp2_with fail
  refine (c_l2Run_no long v zs a b _ hv'.out hN).mono ?_
  rintro e w1 ⟨rfl, hb1⟩
  have s1 := Row.below s0 hb1
  have B1 := Lib.hid (bstep' HB.out hb1 HB.out.size)
  clear s0 hb1
  go_wp2_with (refine wl_storeB rfl _ _ rfl (w.heap.size + 1) 0 (.slice none 0 0) _ _ s1 rfl rfl rfl ?_)
  exact bodyPost_ret (res_row_slot Tryd.results103 (Row.put s1 (cb 0 (.slice none 0 0))) rfl rfl Tryd.underlying25 rfl info_bits) rfl ⟨rfl, below_setRow B1.out (by omega) _⟩
set_option maxHeartbeats 1600000 in
theorem c_sSetRun_yes (long : Int) (v : Value) (zs : List Int) (a b : Nat) (on : Bool) (w : World) (hv : IntsAt w v zs) (hB : Bok long zs) (hR : InRun long a b) : Calls Tryd.prog 103 #[bm long v, .int .i64 a, .int .i64 b, .bool on] w fun e w' => ∃ v', e = .returned (.tuple #[bm long v', .bool true]) ∧ Own w' w.heap.size v' (runL zs a on (b - a)) ∧ Below w.heap.size w w' := by
  have HB := Lib.hid (((Below.refl w.heap.size w).alloc (Nat.le_refl _) (.cells (cb long v) 25)).alloc (by simp) (.cells (cb 0 (.slice none 0 0)) 25))
  have hv' := Lib.hid (hv.below HB.out); clear hv
  have r0 : RowB ((w.alloc (.cells (cb long v) 25)).alloc (.cells (cb 0 (.slice none 0 0)) 25)) w.heap.size long v := (Row.new w 25 (cb long v)).alloc _
  have s0 : RowB ((w.alloc (.cells (cb long v) 25)).alloc (.cells (cb 0 (.slice none 0 0)) 25)) (w.heap.size + 1) 0 (.slice none 0 0) := Row.new1 w _ _ _
  obtain ⟨hR0, hR1, hR2⟩ := id hR
  have hl0 := hB.1
  have hl1 := hB.2.1
  have HL : Hid ((zs.length : Int) = (long + 15) / 16) := hB.2.2.1
  go_enter Tryd.func103, Tryd.ntmps103
  go_wp2_with fail
  refine (c_l2Run_yes long v zs a b _ hv'.out hB hR).mono ?_
  rintro e w1 ⟨rfl, hb1⟩
  have r1 := Row.below r0 hb1
  have s1 := Row.below s0 hb1
  have q0 := RowB.c0 r1
  have q1 := RowB.c1 r1
  have v1 := Lib.hid (hv'.out.below hb1)
  have B1 := Lib.hid (bstep' HB.out hb1 HB.out.size)
  have hw1 : w.heap.size + 1 < w1.heap.size := Row.lt s1
  clear r0 s0 hb1 r1
  go_wp2_with fail
  refine (c_l2Own long v zs _ v1.out (by have := HL.out; omega)).mono ?_
  rintro e w2 ⟨v2, rfl, ho, hb2⟩
  have s2 := Lib.hid (Row.below s1 hb2)
  have B2 := Lib.hid (bstep' B1.out hb2 B1.out.size)
  have HS := hb2.size
  obtain ⟨vg, vc, hvs, hvg⟩ := ho.shape
  have HO := Lib.hid ho
  have HG := Lib.hid hvg
  clear s1 hb2 q0 q1 ho hvg
  subst hvs
  generalize hn : zs.length = n at *
  have HN := Lib.hid hn
  clear hn
  go_wp2
  go_loopw [11] (fun i wr => ∃ k : Nat, a + k ≤ b ∧ i = .int .i64 ((a + k : Nat) : Int) ∧ Own wr w1.heap.size (.slice vg n vc) (runL zs a on k) ∧ RowB wr w2.heap.size long (.slice vg n vc) ∧ RowB wr (w.heap.size + 1) 0 (.slice none 0 0) ∧ Below w.heap.size w wr ∧ w2.heap.size < wr.heap.size) (fun i _ => b - (intOf i).toNat)
  case atStart => exact ⟨0, by omega, rfl, HO.out.below ((Below.refl _ _).alloc (Nat.le_refl _) _), Row.new w2 _ _, s2.out.alloc _, B2.out.alloc B2.out.size _, by simp⟩
  case round =>
    obtain ⟨k, hk, rfl, ho, hr, hs, hb, hsz⟩ := hrel
    by_cases hlt : a + k < b
    · have hn0 : 0 < n := by have := HL.out; omega
      have hlen : (runL zs a on k).length = n := by rw [runL_length]; exact HN.out
      obtain ⟨g, c, hgv, hgB⟩ := ho.some (by rw [hlen]; exact hn0)
      rw [hlen] at hgv
      have eg : vg = Option.some ⟨g, 0, none⟩ := by cases hgv; rfl
      subst eg
      have hglt : g < w2.heap.size := Own.lt_of HO.out
      have HO1 := Lib.hid ho; have HR := Lib.hid hr; have HS1 := Lib.hid hs; have HB1 := Lib.hid hb
      have hp : a + k < 16 * n := by have := HL.out; omega
      clear ho hgv hs hb HO
      have q0 := hr.c0
      have q1 := hr.c1
      clear hr
      have hlt' : ((a + k : Nat) : Int) < (b : Int) := by omega
      go_wp2_with fail
      refine (c_l2Set long g n vc (runL zs a on k) (a + k) on w1.heap.size wr HO1.out (by rw [hlen]; have := HL.out; omega) (by rw [hlen]; exact hp)).mono ?_
      rintro e w3 ⟨rfl, ho3, hg3⟩
      have HO3 := Lib.hid ho3
      have HR3 := Lib.hid (Row.grownBy HR.out hg3 (fun h => by simp at h; omega))
      have HS3 := Lib.hid (Row.grownBy HS1.out hg3 (fun h => by simp at h; omega))
      have HB3 := Lib.hid (HB1.out.grown hg3 HB1.out.size (fun j hj => by simp at hj; omega))
      have hsz3 : w2.heap.size < w3.heap.size := by have := hg3.size; omega
      clear ho3 hg3 q0 q1
      go_wp2
      go_roundw
      case rel => exact ⟨k + 1, by omega, by go_num, HO3.out, HR3.out, HS3.out, HB3.out, hsz3⟩
      case measure => simp [intOf]; omega
    · have HK : Hid (k = b - a) := by unfold Hid; omega
      have hge : ¬ ((a + k : Nat) : Int) < (b : Int) := by omega
      go_wp2_with (first
        | (refine wl_loadB rfl _ rfl w2.heap.size long (.slice vg n vc) hr rfl ?_)
        | (refine wl_storeB rfl _ _ rfl (w.heap.size + 1) long (.slice vg n vc) _ _ hs rfl rfl rfl ?_))
      refine bodyPost_ret (res_row_slot Tryd.results103 (Row.put hs (cb long (.slice vg n vc))) rfl rfl Tryd.underlying25 rfl info_bits) rfl ⟨_, rfl, ?_, below_setRow hb (by omega) _⟩
      rw [← HK.out]
      exact Own.setRow' (ho.mono (by omega)) (fun x hx => by have := HG.out x hx; omega)
end Go.Proofs.YtcelebblcjhpaaaDoor
