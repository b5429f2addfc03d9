/- The reference's spans: valid, new, of one's own. -/
import Derived.Test.YtcelebblcjhpaaaDoorSw5
import Derived.Test.YtcelebblcjhpaaaDoorCtr4
import Derived.Test.YtcelebblcjhpaaaDoorBs4
import Derived.Test.YtcelebblcjhpaaaDoorBs5
namespace Go.Proofs.YtcelebblcjhpaaaDoor
open Go.RowKit Pb

theorem zero_ok {n : Int} (h0 : 0 ≤ n) (h1 : n ≤ 96) : Bok n (wl ((n + 15) / 16).toNat fun _ => 0) := by
  refine ⟨h0, h1, by rw [wl_length]; omega, fun k _ => wl_w (fun _ => w_zero) _ k, fun k _ => ?_⟩
  show tb ((wl ((n + 15) / 16).toNat fun _ => 0).getD (k / 16) 0) (k % 16) = false
  by_cases h : k / 16 < ((n + 15) / 16).toNat
  · rw [wl_getD _ h]; simp [tb]
  · rw [getD_end (by rw [wl_length]; omega)]; simp [tb]
set_option maxHeartbeats 800000 in
theorem c_l4Slots (c : Int) (w : World) : Calls Tryd.prog 59 #[.int .i64 c] w fun e w' => e = .returned (.int .i64 (Pl.slOf c)) ∧ Below w.heap.size w w' := by
  generalize hs : Pl.slOf c = s
  have HS := Lib.hid hs; clear hs
  go_enter Tryd.func59, Tryd.ntmps59
  go_wp2_with fail
  refine (c_specSlotsIn c _).mono ?_
  rintro e w1 ⟨rfl, hb1⟩
  rw [HS.out]
  generalize Pl.isCl c = b
  go_wp2
  go_ret
  exact ⟨rfl, hb1⟩
theorem c_l1Class_is (c : Int) (b : Bool) (hc : Pl.isCl c = b) (w : World) : Calls Tryd.prog 57 #[.int .i64 c] w fun e w' => e = .returned (.bool b) ∧ Below w.heap.size w w' := by subst hc; exact c_l1Class c w
theorem c_l4Slots_is (c n : Int) (hc : Pl.slOf c = n) (w : World) : Calls Tryd.prog 59 #[.int .i64 c] w fun e w' => e = .returned (.int .i64 n) ∧ Below w.heap.size w w' := by subst hc; exact c_l4Slots c w
theorem c_l1Pages_is (c n : Int) (hc : Pl.isCl c = true) (hn : Pl.pgOf c = n) (w : World) : Calls Tryd.prog 61 #[.int .i64 c] w fun e w' => e = .returned (.int .i64 n) ∧ Below w.heap.size w w' := by
  subst hn; rw [(Pl.cl_yes hc).1]; exact c_l1Pages c w hc

set_option maxHeartbeats 3200000 in
set_option maxRecDepth 100000 in
theorem c_sGoodSpan_class (f c l : Int) (v : Value) (zs : List Int) (w : World) (hv : IntsAt w v zs) (hc : Pl.isCl c = false) : Calls Tryd.prog 17 #[sp f c l v] w fun e w' => e = .returned (.bool false) ∧ Below w.heap.size w w' := by
  have HB : Hid (Below w.heap.size w (w.alloc (.cells (c4 f c l v) 27)).drew) := below_drew ((Below.refl w.heap.size w).alloc (Nat.le_refl _) _)
  have HV : Hid (IntsAt (w.alloc (.cells (c4 f c l v) 27)).drew v zs) := hv.below HB.out
  clear hv
  go_enter Tryd.func17, Tryd.ntmps17
  go_wp2_with fail
  refine wp_region_held_drew (S := (fun w' => w'.cell? ⟨w.heap.size, 0, none⟩ = some (.int .i64 f) ∧ w'.cell? ⟨w.heap.size, 1, none⟩ = some (.int .i64 c) ∧ w'.cell? ⟨w.heap.size, 2, none⟩ = some (.int .i64 l) ∧ w'.cell? ⟨w.heap.size, 3, none⟩ = some v ∧ IntsAt w' v zs ∧ Below w.heap.size w w')) (by kernel_rfl) (⟨by simp, by simp, by simp, by simp, HV.out, HB.out⟩) (fun hHeld => ?_)
  refine wpAnyH_take (i := 0) (v := ?va0) rfl (by kernel_rfl) (by kernel_rfl) (by kernel_rfl) (fun _ _ _ h => h) (Or.inl ⟨by rfl, ?hy0⟩) (by assumption) ?rest0
  case hy0 => (intro w hSw; (try dsimp only at hSw); go_simp; try with_reducible rfl)
  (try simp only [Act.put, List.getElem_toArray, List.getElem_cons_zero, List.setIfInBounds_toArray, List.set_cons_zero, List.set_cons_succ])
  refine wpAnyH_take (i := 1) (v := ?va1) rfl (by kernel_rfl) (by kernel_rfl) (by kernel_rfl) (fun _ _ _ h => h) (Or.inl ⟨by rfl, ?hy1⟩) (by assumption) ?rest1
  case hy1 => (intro w hSw; (try dsimp only at hSw); go_simp; try with_reducible rfl)
  (try simp only [Act.put, List.getElem_toArray, List.getElem_cons_zero, List.getElem_cons_succ, List.setIfInBounds_toArray, List.set_cons_zero, List.set_cons_succ])
  refine wpAnyH_ready (rs := [2]) (by kernel_rfl) (by simp) ?_
  refine AllReadyH.cons rfl (fun K hK => ?_) AllReadyH.nil
  go_simp
  refine (c_l1Class_is c false hc _).mono ?_
  rintro e wc ⟨rfl, hbk⟩
  obtain ⟨k0, k1, k2, k3, kv, kb⟩ := hHeld
  refine hK.out _ _ (⟨cellBelow hbk k0, cellBelow hbk k1, cellBelow hbk k2, cellBelow hbk k3, kv.below hbk, bst kb hbk kb.size⟩) (fun hHeld => ?_)
  clear hK K
  (try simp only [Act.put, List.getElem_toArray, List.getElem_cons_zero, List.getElem_cons_succ, List.setIfInBounds_toArray, List.set_cons_zero, List.set_cons_succ])
  refine wpAnyH_take (i := 3) (v := ?va3) rfl (by kernel_rfl) (by kernel_rfl) (by kernel_rfl) (fun _ _ _ h => h) (Or.inl ⟨by rfl, ?hy3⟩) (by assumption) ?rest3
  case hy3 => (intro w hSw; (try dsimp only at hSw); go_simp; try with_reducible rfl)
  (try simp only [Act.put, List.getElem_toArray, List.getElem_cons_zero, List.getElem_cons_succ, List.setIfInBounds_toArray, List.set_cons_zero, List.set_cons_succ])
  refine wpAnyH_take (i := 4) (v := ?va4) rfl (by kernel_rfl) (by kernel_rfl) (by kernel_rfl) (fun _ _ _ h => h) (Or.inl ⟨by rfl, ?hy4⟩) (by assumption) ?rest4
  case hy4 => (intro w hSw; (try dsimp only at hSw); go_simp; try with_reducible rfl)
  (try simp only [Act.put, List.getElem_toArray, List.getElem_cons_zero, List.getElem_cons_succ, List.setIfInBounds_toArray, List.set_cons_zero, List.set_cons_succ])
  refine wpAnyH_take (i := 5) (v := undef) rfl (by kernel_rfl) (by kernel_rfl) (by kernel_rfl) (fun _ _ _ h => h) (Or.inr ⟨by rfl, rfl⟩) (by assumption) ?_
  (try simp only [Act.put, List.getElem_toArray, List.getElem_cons_zero, List.getElem_cons_succ, List.setIfInBounds_toArray, List.set_cons_zero, List.set_cons_succ])
  refine wpAnyH_take (i := 6) (v := undef) rfl (by kernel_rfl) (by kernel_rfl) (by kernel_rfl) (fun _ _ _ h => h) (Or.inr ⟨by rfl, rfl⟩) (by assumption) ?_
  (try simp only [Act.put, List.getElem_toArray, List.getElem_cons_zero, List.getElem_cons_succ, List.setIfInBounds_toArray, List.set_cons_zero, List.set_cons_succ])
  refine wpAnyH_take (i := 7) (v := undef) rfl (by kernel_rfl) (by kernel_rfl) (by kernel_rfl) (fun _ _ _ h => h) (Or.inr ⟨by rfl, rfl⟩) (by assumption) ?_
  (try simp only [Act.put, List.getElem_toArray, List.getElem_cons_zero, List.getElem_cons_succ, List.setIfInBounds_toArray, List.set_cons_zero, List.set_cons_succ])
  refine wpAnyH_take (i := 8) (v := undef) rfl (by kernel_rfl) (by kernel_rfl) (by kernel_rfl) (fun _ _ _ h => h) (Or.inr ⟨by rfl, rfl⟩) (by assumption) ?_
  (try simp only [Act.put, List.getElem_toArray, List.getElem_cons_zero, List.getElem_cons_succ, List.setIfInBounds_toArray, List.set_cons_zero, List.set_cons_succ])
  refine wpAnyH_take (i := 9) (v := ?va9) rfl (by kernel_rfl) (by kernel_rfl) (by kernel_rfl) (fun _ _ _ h => h) (Or.inl ⟨by rfl, ?hy9⟩) (by assumption) ?rest9
  case hy9 => (intro w hSw; (try dsimp only at hSw); go_simp; try with_reducible rfl)
  (try simp only [Act.put, List.getElem_toArray, List.getElem_cons_zero, List.getElem_cons_succ, List.setIfInBounds_toArray, List.set_cons_zero, List.set_cons_succ])
  refine wpAnyH_take (i := 10) (v := ?va10) rfl (by kernel_rfl) (by kernel_rfl) (by kernel_rfl) (fun _ _ _ h => h) (Or.inl ⟨by rfl, ?hy10⟩) (by assumption) ?rest10
  case hy10 => (intro w hSw; (try dsimp only at hSw); go_simp; try with_reducible rfl)
  (try simp only [Act.put, List.getElem_toArray, List.getElem_cons_zero, List.getElem_cons_succ, List.setIfInBounds_toArray, List.set_cons_zero, List.set_cons_succ])
  refine wpAnyH_take (i := 11) (v := undef) rfl (by kernel_rfl) (by kernel_rfl) (by kernel_rfl) (fun _ _ _ h => h) (Or.inr ⟨by rfl, rfl⟩) (by assumption) ?_
  (try simp only [Act.put, List.getElem_toArray, List.getElem_cons_zero, List.getElem_cons_succ, List.setIfInBounds_toArray, List.set_cons_zero, List.set_cons_succ])
  refine wpAnyH_take (i := 12) (v := undef) rfl (by kernel_rfl) (by kernel_rfl) (by kernel_rfl) (fun _ _ _ h => h) (Or.inr ⟨by rfl, rfl⟩) (by assumption) ?_
  (try simp only [Act.put, List.getElem_toArray, List.getElem_cons_zero, List.getElem_cons_succ, List.setIfInBounds_toArray, List.set_cons_zero, List.set_cons_succ])
  refine wpAnyH_take (i := 13) (v := undef) rfl (by kernel_rfl) (by kernel_rfl) (by kernel_rfl) (fun _ _ _ h => h) (Or.inr ⟨by rfl, rfl⟩) (by assumption) ?_
  (try simp only [Act.put, List.getElem_toArray, List.getElem_cons_zero, List.getElem_cons_succ, List.setIfInBounds_toArray, List.set_cons_zero, List.set_cons_succ])
  refine wpAnyH_take (i := 14) (v := undef) rfl (by kernel_rfl) (by kernel_rfl) (by kernel_rfl) (fun _ _ _ h => h) (Or.inr ⟨by rfl, rfl⟩) (by assumption) ?_
  (try simp only [Act.put, List.getElem_toArray, List.getElem_cons_zero, List.getElem_cons_succ, List.setIfInBounds_toArray, List.set_cons_zero, List.set_cons_succ])
  refine wpAnyH_take (i := 15) (v := undef) rfl (by kernel_rfl) (by kernel_rfl) (by kernel_rfl) (fun _ _ _ h => h) (Or.inr ⟨by rfl, rfl⟩) (by assumption) ?_
  (try simp only [Act.put, List.getElem_toArray, List.getElem_cons_zero, List.getElem_cons_succ, List.setIfInBounds_toArray, List.set_cons_zero, List.set_cons_succ])
  refine wpAnyH_take (i := 16) (v := undef) rfl (by kernel_rfl) (by kernel_rfl) (by kernel_rfl) (fun _ _ _ h => h) (Or.inr ⟨by rfl, rfl⟩) (by assumption) ?_
  (try simp only [Act.put, List.getElem_toArray, List.getElem_cons_zero, List.getElem_cons_succ, List.setIfInBounds_toArray, List.set_cons_zero, List.set_cons_succ])
  refine wpAnyH_take (i := 17) (v := undef) rfl (by kernel_rfl) (by kernel_rfl) (by kernel_rfl) (fun _ _ _ h => h) (Or.inr ⟨by rfl, rfl⟩) (by assumption) ?_
  (try simp only [Act.put, List.getElem_toArray, List.getElem_cons_zero, List.getElem_cons_succ, List.setIfInBounds_toArray, List.set_cons_zero, List.set_cons_succ])
  refine wpAnyH_take (i := 18) (v := ?va18) rfl (by kernel_rfl) (by kernel_rfl) (by kernel_rfl) (fun _ _ _ h => h) (Or.inl ⟨by rfl, ?hy18⟩) (by assumption) ?rest18
  case hy18 => (intro w hSw; (try dsimp only at hSw); go_simp; try with_reducible rfl)
  (try simp only [Act.put, List.getElem_toArray, List.getElem_cons_zero, List.getElem_cons_succ, List.setIfInBounds_toArray, List.set_cons_zero, List.set_cons_succ])
  refine wpAnyH_done (by kernel_rfl) ?_ _
  obtain ⟨_, _, _, _, _, kb⟩ := hHeld
  go_wp2
  go_ret
  exact ⟨rfl, kb⟩

set_option maxHeartbeats 3200000 in
set_option maxRecDepth 100000 in
theorem c_sGoodSpan_bits (f c l : Int) (v : Value) (zs : List Int) (w : World) (hv : IntsAt w v zs) (hc : Pl.isCl c = true) (hB : ¬ Bok l zs) : Calls Tryd.prog 17 #[sp f c l v] w fun e w' => e = .returned (.bool false) ∧ Below w.heap.size w w' := by
  have HNB := Lib.hid hB; clear hB
  have HB : Hid (Below w.heap.size w (w.alloc (.cells (c4 f c l v) 27)).drew) := below_drew ((Below.refl w.heap.size w).alloc (Nat.le_refl _) _)
  have HV : Hid (IntsAt (w.alloc (.cells (c4 f c l v) 27)).drew v zs) := hv.below HB.out
  clear hv
  go_enter Tryd.func17, Tryd.ntmps17
  go_wp2_with fail
  refine wp_region_held_drew (S := (fun w' => w'.cell? ⟨w.heap.size, 0, none⟩ = some (.int .i64 f) ∧ w'.cell? ⟨w.heap.size, 1, none⟩ = some (.int .i64 c) ∧ w'.cell? ⟨w.heap.size, 2, none⟩ = some (.int .i64 l) ∧ w'.cell? ⟨w.heap.size, 3, none⟩ = some v ∧ IntsAt w' v zs ∧ Below w.heap.size w w')) (by kernel_rfl) (⟨by simp, by simp, by simp, by simp, HV.out, HB.out⟩) (fun hHeld => ?_)
  refine wpAnyH_take (i := 0) (v := ?va0) rfl (by kernel_rfl) (by kernel_rfl) (by kernel_rfl) (fun _ _ _ h => h) (Or.inl ⟨by rfl, ?hy0⟩) (by assumption) ?rest0
  case hy0 => (intro w hSw; (try dsimp only at hSw); go_simp; try with_reducible rfl)
  (try simp only [Act.put, List.getElem_toArray, List.getElem_cons_zero, List.setIfInBounds_toArray, List.set_cons_zero, List.set_cons_succ])
  refine wpAnyH_take (i := 1) (v := ?va1) rfl (by kernel_rfl) (by kernel_rfl) (by kernel_rfl) (fun _ _ _ h => h) (Or.inl ⟨by rfl, ?hy1⟩) (by assumption) ?rest1
  case hy1 => (intro w hSw; (try dsimp only at hSw); go_simp; try with_reducible rfl)
  (try simp only [Act.put, List.getElem_toArray, List.getElem_cons_zero, List.getElem_cons_succ, List.setIfInBounds_toArray, List.set_cons_zero, List.set_cons_succ])
  refine wpAnyH_ready (rs := [2]) (by kernel_rfl) (by simp) ?_
  refine AllReadyH.cons rfl (fun K hK => ?_) AllReadyH.nil
  go_simp
  refine (c_l1Class_is c true hc _).mono ?_
  rintro e wc ⟨rfl, hbk⟩
  obtain ⟨k0, k1, k2, k3, kv, kb⟩ := hHeld
  refine hK.out _ _ (⟨cellBelow hbk k0, cellBelow hbk k1, cellBelow hbk k2, cellBelow hbk k3, kv.below hbk, bst kb hbk kb.size⟩) (fun hHeld => ?_)
  clear hK K
  (try simp only [Act.put, List.getElem_toArray, List.getElem_cons_zero, List.getElem_cons_succ, List.setIfInBounds_toArray, List.set_cons_zero, List.set_cons_succ])
  refine wpAnyH_take (i := 3) (v := ?va3) rfl (by kernel_rfl) (by kernel_rfl) (by kernel_rfl) (fun _ _ _ h => h) (Or.inl ⟨by rfl, ?hy3⟩) (by assumption) ?rest3
  case hy3 => (intro w hSw; (try dsimp only at hSw); go_simp; try with_reducible rfl)
  (try simp only [Act.put, List.getElem_toArray, List.getElem_cons_zero, List.getElem_cons_succ, List.setIfInBounds_toArray, List.set_cons_zero, List.set_cons_succ])
  refine wpAnyH_take (i := 4) (v := ?va4) rfl (by kernel_rfl) (by kernel_rfl) (by kernel_rfl) (fun _ _ _ h => h) (Or.inl ⟨by rfl, ?hy4⟩) (by assumption) ?rest4
  case hy4 => (intro w hSw; (try dsimp only at hSw); go_simp; try with_reducible rfl)
  (try simp only [Act.put, List.getElem_toArray, List.getElem_cons_zero, List.getElem_cons_succ, List.setIfInBounds_toArray, List.set_cons_zero, List.set_cons_succ])
  refine wpAnyH_take (i := 5) (v := ?va5) rfl (by kernel_rfl) (by kernel_rfl) (by kernel_rfl) (fun _ _ _ h => h) (Or.inl ⟨by rfl, ?hy5⟩) (by assumption) ?rest5
  case hy5 => (intro w hSw; (try dsimp only at hSw); go_simp; try with_reducible rfl)
  (try simp only [Act.put, List.getElem_toArray, List.getElem_cons_zero, List.getElem_cons_succ, List.setIfInBounds_toArray, List.set_cons_zero, List.set_cons_succ])
  refine wpAnyH_take (i := 6) (v := ?va6) rfl (by kernel_rfl) (by kernel_rfl) (by kernel_rfl) (fun _ _ _ h => h) (Or.inl ⟨by rfl, ?hy6⟩) (by assumption) ?rest6
  case hy6 => (intro w hSw; (try dsimp only at hSw); go_simp; try with_reducible rfl)
  (try simp only [Act.put, List.getElem_toArray, List.getElem_cons_zero, List.getElem_cons_succ, List.setIfInBounds_toArray, List.set_cons_zero, List.set_cons_succ])
  refine wpAnyH_ready (rs := [7]) (by kernel_rfl) (by simp) ?_
  refine AllReadyH.cons rfl (fun K hK => ?_) AllReadyH.nil
  go_simp
  refine (c_sGoodBits_no l v zs _ (by obtain ⟨_, _, _, _, kv, _⟩ := hHeld; exact kv) HNB.out).mono ?_
  rintro e wc ⟨rfl, hbk⟩
  obtain ⟨k0, k1, k2, k3, kv, kb⟩ := hHeld
  refine hK.out _ _ (⟨cellBelow hbk k0, cellBelow hbk k1, cellBelow hbk k2, cellBelow hbk k3, kv.below hbk, bst kb hbk kb.size⟩) (fun hHeld => ?_)
  clear hK K
  (try simp only [Act.put, List.getElem_toArray, List.getElem_cons_zero, List.getElem_cons_succ, List.setIfInBounds_toArray, List.set_cons_zero, List.set_cons_succ])
  refine wpAnyH_take (i := 8) (v := ?va8) rfl (by kernel_rfl) (by kernel_rfl) (by kernel_rfl) (fun _ _ _ h => h) (Or.inl ⟨by rfl, ?hy8⟩) (by assumption) ?rest8
  case hy8 => (intro w hSw; (try dsimp only at hSw); go_simp; try with_reducible rfl)
  (try simp only [Act.put, List.getElem_toArray, List.getElem_cons_zero, List.getElem_cons_succ, List.setIfInBounds_toArray, List.set_cons_zero, List.set_cons_succ])
  refine wpAnyH_take (i := 9) (v := ?va9) rfl (by kernel_rfl) (by kernel_rfl) (by kernel_rfl) (fun _ _ _ h => h) (Or.inl ⟨by rfl, ?hy9⟩) (by assumption) ?rest9
  case hy9 => (intro w hSw; (try dsimp only at hSw); go_simp; try with_reducible rfl)
  (try simp only [Act.put, List.getElem_toArray, List.getElem_cons_zero, List.getElem_cons_succ, List.setIfInBounds_toArray, List.set_cons_zero, List.set_cons_succ])
  refine wpAnyH_take (i := 10) (v := ?va10) rfl (by kernel_rfl) (by kernel_rfl) (by kernel_rfl) (fun _ _ _ h => h) (Or.inl ⟨by rfl, ?hy10⟩) (by assumption) ?rest10
  case hy10 => (intro w hSw; (try dsimp only at hSw); go_simp; try with_reducible rfl)
  (try simp only [Act.put, List.getElem_toArray, List.getElem_cons_zero, List.getElem_cons_succ, List.setIfInBounds_toArray, List.set_cons_zero, List.set_cons_succ])
  refine wpAnyH_take (i := 11) (v := undef) rfl (by kernel_rfl) (by kernel_rfl) (by kernel_rfl) (fun _ _ _ h => h) (Or.inr ⟨by rfl, rfl⟩) (by assumption) ?_
  (try simp only [Act.put, List.getElem_toArray, List.getElem_cons_zero, List.getElem_cons_succ, List.setIfInBounds_toArray, List.set_cons_zero, List.set_cons_succ])
  refine wpAnyH_take (i := 12) (v := undef) rfl (by kernel_rfl) (by kernel_rfl) (by kernel_rfl) (fun _ _ _ h => h) (Or.inr ⟨by rfl, rfl⟩) (by assumption) ?_
  (try simp only [Act.put, List.getElem_toArray, List.getElem_cons_zero, List.getElem_cons_succ, List.setIfInBounds_toArray, List.set_cons_zero, List.set_cons_succ])
  refine wpAnyH_take (i := 13) (v := undef) rfl (by kernel_rfl) (by kernel_rfl) (by kernel_rfl) (fun _ _ _ h => h) (Or.inr ⟨by rfl, rfl⟩) (by assumption) ?_
  (try simp only [Act.put, List.getElem_toArray, List.getElem_cons_zero, List.getElem_cons_succ, List.setIfInBounds_toArray, List.set_cons_zero, List.set_cons_succ])
  refine wpAnyH_take (i := 14) (v := undef) rfl (by kernel_rfl) (by kernel_rfl) (by kernel_rfl) (fun _ _ _ h => h) (Or.inr ⟨by rfl, rfl⟩) (by assumption) ?_
  (try simp only [Act.put, List.getElem_toArray, List.getElem_cons_zero, List.getElem_cons_succ, List.setIfInBounds_toArray, List.set_cons_zero, List.set_cons_succ])
  refine wpAnyH_take (i := 15) (v := undef) rfl (by kernel_rfl) (by kernel_rfl) (by kernel_rfl) (fun _ _ _ h => h) (Or.inr ⟨by rfl, rfl⟩) (by assumption) ?_
  (try simp only [Act.put, List.getElem_toArray, List.getElem_cons_zero, List.getElem_cons_succ, List.setIfInBounds_toArray, List.set_cons_zero, List.set_cons_succ])
  refine wpAnyH_take (i := 16) (v := undef) rfl (by kernel_rfl) (by kernel_rfl) (by kernel_rfl) (fun _ _ _ h => h) (Or.inr ⟨by rfl, rfl⟩) (by assumption) ?_
  (try simp only [Act.put, List.getElem_toArray, List.getElem_cons_zero, List.getElem_cons_succ, List.setIfInBounds_toArray, List.set_cons_zero, List.set_cons_succ])
  refine wpAnyH_take (i := 17) (v := undef) rfl (by kernel_rfl) (by kernel_rfl) (by kernel_rfl) (fun _ _ _ h => h) (Or.inr ⟨by rfl, rfl⟩) (by assumption) ?_
  (try simp only [Act.put, List.getElem_toArray, List.getElem_cons_zero, List.getElem_cons_succ, List.setIfInBounds_toArray, List.set_cons_zero, List.set_cons_succ])
  refine wpAnyH_take (i := 18) (v := ?va18) rfl (by kernel_rfl) (by kernel_rfl) (by kernel_rfl) (fun _ _ _ h => h) (Or.inl ⟨by rfl, ?hy18⟩) (by assumption) ?rest18
  case hy18 => (intro w hSw; (try dsimp only at hSw); go_simp; try with_reducible rfl)
  (try simp only [Act.put, List.getElem_toArray, List.getElem_cons_zero, List.getElem_cons_succ, List.setIfInBounds_toArray, List.set_cons_zero, List.set_cons_succ])
  refine wpAnyH_done (by kernel_rfl) ?_ _
  obtain ⟨_, _, _, _, _, kb⟩ := hHeld
  go_wp2
  go_ret
  exact ⟨rfl, kb⟩

set_option maxHeartbeats 3200000 in
set_option maxRecDepth 100000 in
theorem c_sGoodSpan_long (f c l : Int) (v : Value) (zs : List Int) (w : World) (hv : IntsAt w v zs) (hc : Pl.isCl c = true) (hB : Bok l zs) (hl : l ≠ Pl.slOf c) : Calls Tryd.prog 17 #[sp f c l v] w fun e w' => e = .returned (.bool false) ∧ Below w.heap.size w w' := by
  have HBK := Lib.hid hB; clear hB
  generalize hn : Pl.slOf c = n at *
  have HN := Lib.hid hn; clear hn
  have hne : (l != n) = true := by rw [bne_iff_ne]; exact hl
  clear hl
  have HB : Hid (Below w.heap.size w (w.alloc (.cells (c4 f c l v) 27)).drew) := below_drew ((Below.refl w.heap.size w).alloc (Nat.le_refl _) _)
  have HV : Hid (IntsAt (w.alloc (.cells (c4 f c l v) 27)).drew v zs) := hv.below HB.out
  clear hv
  go_enter Tryd.func17, Tryd.ntmps17
  go_wp2_with fail
  go_region_held3 (fun w' => w'.cell? ⟨w.heap.size, 0, none⟩ = some (.int .i64 f) ∧ w'.cell? ⟨w.heap.size, 1, none⟩ = some (.int .i64 c) ∧ w'.cell? ⟨w.heap.size, 2, none⟩ = some (.int .i64 l) ∧ w'.cell? ⟨w.heap.size, 3, none⟩ = some v ∧ IntsAt w' v zs ∧ Below w.heap.size w w')
    (first
      | (refine ⟨by simp, by simp, by simp, by simp, HV.out, HB.out⟩)
      | (go_split_ands
         exact ⟨cellBelow hbk (by assumption), cellBelow hbk (by assumption), cellBelow hbk (by assumption), cellBelow hbk (by assumption), IntsAt.below (by assumption) hbk, bst (by assumption) hbk (Below.size (by assumption))⟩)
      | (go_split_ands; refine ⟨?_, ?_, ?_, ?_, ?_, ?_⟩ <;> assumption))
    (first
      | (go_at_call 57; refine (c_l1Class_is c true hc _).mono ?_; rintro e w2 ⟨rfl, hbk⟩)
      | (go_at_call 58; go_split_ands; refine (c_sGoodBits_yes l v zs _ (by assumption) HBK.out).mono ?_; rintro e w3 ⟨rfl, hbk⟩)
      | (go_at_call 59; refine (c_l4Slots_is c n HN.out _).mono ?_; rintro e w4 ⟨rfl, hbk⟩))
  rename_i hfin
  obtain ⟨_, _, _, _, _, kb⟩ := hfin
  go_wp2
  go_ret
  exact ⟨rfl, kb⟩

set_option maxHeartbeats 3200000 in
set_option maxRecDepth 100000 in
theorem c_sGoodSpan_yes (f c l : Int) (v : Value) (zs : List Int) (w : World) (hv : IntsAt w v zs) (hS : Sok f c l zs) : Calls Tryd.prog 17 #[sp f c l v] w fun e w' => e = .returned (.bool true) ∧ Below w.heap.size w w' := by
  obtain ⟨hc, hf, hl, hB⟩ := hS
  have HBK := Lib.hid hB; clear hB
  have HN := Lib.hid hl.symm; clear hl
  obtain ⟨p0, p1⟩ := pg_bd hc
  generalize hpg : Pl.pgOf c = pg at *
  have HPG := Lib.hid hpg; clear hpg
  have HNF := Lib.hid hf; clear hf
  have HB : Hid (Below w.heap.size w (w.alloc (.cells (c4 f c l v) 27)).drew) := below_drew ((Below.refl w.heap.size w).alloc (Nat.le_refl _) _)
  have HV : Hid (IntsAt (w.alloc (.cells (c4 f c l v) 27)).drew v zs) := hv.below HB.out
  clear hv
  go_enter Tryd.func17, Tryd.ntmps17
  go_wp2_with fail
  go_region_held3 (fun w' => w'.cell? ⟨w.heap.size, 0, none⟩ = some (.int .i64 f) ∧ w'.cell? ⟨w.heap.size, 1, none⟩ = some (.int .i64 c) ∧ w'.cell? ⟨w.heap.size, 2, none⟩ = some (.int .i64 l) ∧ w'.cell? ⟨w.heap.size, 3, none⟩ = some v ∧ IntsAt w' v zs ∧ Below w.heap.size w w')
    (first
      | (refine ⟨by simp, by simp, by simp, by simp, HV.out, HB.out⟩)
      | (go_split_ands
         exact ⟨cellBelow hbk (by assumption), cellBelow hbk (by assumption), cellBelow hbk (by assumption), cellBelow hbk (by assumption), IntsAt.below (by assumption) hbk, bst (by assumption) hbk (Below.size (by assumption))⟩)
      | (go_split_ands; refine ⟨?_, ?_, ?_, ?_, ?_, ?_⟩ <;> assumption))
    (first
      | (go_at_call 57; refine (c_l1Class_is c true hc _).mono ?_; rintro e w2 ⟨rfl, hbk⟩)
      | (go_at_call 58; go_split_ands; refine (c_sGoodBits_yes l v zs _ (by assumption) HBK.out).mono ?_; rintro e w3 ⟨rfl, hbk⟩)
      | (go_at_call 59; refine (c_l4Slots_is c l HN.out _).mono ?_; rintro e w4 ⟨rfl, hbk⟩))
  rename_i hfin
  obtain ⟨k0, k1, k2, k3, kv, kb⟩ := hfin
  have HV : Hid (IntsAt w4.drew v zs) := kv
  have HB := Lib.hid (below_drew kb)
  clear kv kb
  go_wp2_with fail
  replace k0 : w4.drew.cell? ⟨w.heap.size, 0, none⟩ = some (.int .i64 f) := k0
  replace k1 : w4.drew.cell? ⟨w.heap.size, 1, none⟩ = some (.int .i64 c) := k1
  have i1 : IntKind.i64.wrap (32 - pg) = 32 - pg := IntWalk.i64_in _ (by omega)
  go_region_held3 (fun w' => w'.cell? ⟨w.heap.size, 0, none⟩ = some (.int .i64 f) ∧ w'.cell? ⟨w.heap.size, 1, none⟩ = some (.int .i64 c) ∧ Below w.heap.size w w')
    (first
      | (with_reducible exact ⟨k0, k1, HB.out⟩)
      | (go_split_ands
         exact ⟨cellBelow hbk (by assumption), cellBelow hbk (by assumption), bst (by assumption) hbk (Below.size (by assumption))⟩)
      | (go_split_ands; refine ⟨?_, ?_, ?_⟩ <;> assumption))
    (first
      | (go_at_call 61; refine (c_l1Pages_is c pg hc HPG.out _).mono ?_; rintro e w5 ⟨rfl, hbk⟩)
      | (go_at_call 60; refine (c_in_yes f 0 (32 - pg) _ HNF.out).mono ?_; rintro e w6 ⟨rfl, rfl⟩))
  rename_i hfin
  obtain ⟨_, _, kb⟩ := hfin
  go_wp2
  go_ret
  exact ⟨rfl, kb⟩

set_option maxHeartbeats 3200000 in
set_option maxRecDepth 100000 in
theorem c_sGoodSpan_from (f c l : Int) (v : Value) (zs : List Int) (w : World) (hv : IntsAt w v zs) (hc : Pl.isCl c = true) (hB : Bok l zs) (hl : l = Pl.slOf c) (hf : ¬ (0 ≤ f ∧ f ≤ 32 - Pl.pgOf c)) : Calls Tryd.prog 17 #[sp f c l v] w fun e w' => e = .returned (.bool false) ∧ Below w.heap.size w w' := by
  have HBK := Lib.hid hB; clear hB
  have HN := Lib.hid hl.symm; clear hl
  obtain ⟨p0, p1⟩ := pg_bd hc
  generalize hpg : Pl.pgOf c = pg at *
  have HPG := Lib.hid hpg; clear hpg
  have HNF := Lib.hid hf; clear hf
  have HB : Hid (Below w.heap.size w (w.alloc (.cells (c4 f c l v) 27)).drew) := below_drew ((Below.refl w.heap.size w).alloc (Nat.le_refl _) _)
  have HV : Hid (IntsAt (w.alloc (.cells (c4 f c l v) 27)).drew v zs) := hv.below HB.out
  clear hv
  go_enter Tryd.func17, Tryd.ntmps17
  go_wp2_with fail
  go_region_held3 (fun w' => w'.cell? ⟨w.heap.size, 0, none⟩ = some (.int .i64 f) ∧ w'.cell? ⟨w.heap.size, 1, none⟩ = some (.int .i64 c) ∧ w'.cell? ⟨w.heap.size, 2, none⟩ = some (.int .i64 l) ∧ w'.cell? ⟨w.heap.size, 3, none⟩ = some v ∧ IntsAt w' v zs ∧ Below w.heap.size w w')
    (first
      | (refine ⟨by simp, by simp, by simp, by simp, HV.out, HB.out⟩)
      | (go_split_ands
         exact ⟨cellBelow hbk (by assumption), cellBelow hbk (by assumption), cellBelow hbk (by assumption), cellBelow hbk (by assumption), IntsAt.below (by assumption) hbk, bst (by assumption) hbk (Below.size (by assumption))⟩)
      | (go_split_ands; refine ⟨?_, ?_, ?_, ?_, ?_, ?_⟩ <;> assumption))
    (first
      | (go_at_call 57; refine (c_l1Class_is c true hc _).mono ?_; rintro e w2 ⟨rfl, hbk⟩)
      | (go_at_call 58; go_split_ands; refine (c_sGoodBits_yes l v zs _ (by assumption) HBK.out).mono ?_; rintro e w3 ⟨rfl, hbk⟩)
      | (go_at_call 59; refine (c_l4Slots_is c l HN.out _).mono ?_; rintro e w4 ⟨rfl, hbk⟩))
  rename_i hfin
  obtain ⟨k0, k1, k2, k3, kv, kb⟩ := hfin
  have HV : Hid (IntsAt w4.drew v zs) := kv
  have HB := Lib.hid (below_drew kb)
  clear kv kb
  go_wp2_with fail
  replace k0 : w4.drew.cell? ⟨w.heap.size, 0, none⟩ = some (.int .i64 f) := k0
  replace k1 : w4.drew.cell? ⟨w.heap.size, 1, none⟩ = some (.int .i64 c) := k1
  have i1 : IntKind.i64.wrap (32 - pg) = 32 - pg := IntWalk.i64_in _ (by omega)
  go_region_held3 (fun w' => w'.cell? ⟨w.heap.size, 0, none⟩ = some (.int .i64 f) ∧ w'.cell? ⟨w.heap.size, 1, none⟩ = some (.int .i64 c) ∧ Below w.heap.size w w')
    (first
      | (with_reducible exact ⟨k0, k1, HB.out⟩)
      | (go_split_ands
         exact ⟨cellBelow hbk (by assumption), cellBelow hbk (by assumption), bst (by assumption) hbk (Below.size (by assumption))⟩)
      | (go_split_ands; refine ⟨?_, ?_, ?_⟩ <;> assumption))
    (first
      | (go_at_call 61; refine (c_l1Pages_is c pg hc HPG.out _).mono ?_; rintro e w5 ⟨rfl, hbk⟩)
      | (go_at_call 60; refine (c_in_no f 0 (32 - pg) _ HNF.out).mono ?_; rintro e w6 ⟨rfl, rfl⟩))
  rename_i hfin
  obtain ⟨_, _, kb⟩ := hfin
  go_wp2
  go_ret
  exact ⟨rfl, kb⟩

theorem c_sGoodSpan_no (f c l : Int) (v : Value) (zs : List Int) (w : World) (hv : IntsAt w v zs) (hS : ¬ Sok f c l zs) : Calls Tryd.prog 17 #[sp f c l v] w fun e w' => e = .returned (.bool false) ∧ Below w.heap.size w w' := by
  cases hc : Pl.isCl c with
  | false => exact c_sGoodSpan_class f c l v zs w hv hc
  | true =>
    by_cases hB : Bok l zs
    · by_cases hl : l = Pl.slOf c
      · exact c_sGoodSpan_from f c l v zs w hv hc hB hl (fun hf => hS ⟨hc, hf, hl, hB⟩)
      · exact c_sGoodSpan_long f c l v zs w hv hc hB hl
    · exact c_sGoodSpan_bits f c l v zs w hv hc hB

end Go.Proofs.YtcelebblcjhpaaaDoor
