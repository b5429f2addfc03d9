/- Contracts of chapter 2: the reference, where it makes bitmaps. -/
import Derived.Test.YtcelebblcjhpaaaDoorBs3
import Derived.Test.YtcelebblcjhpaaaDoorBw5
import Derived.Deep.AppendLies
namespace Go.Proofs.YtcelebblcjhpaaaDoor
open Go.RowKit Pb

def SomeR (w : World) (g : Nat) : Prop := ∃ l v, RowB w g l v
set_option maxHeartbeats 800000 in
theorem c_l2Own (long : Int) (v : Value) (zs : List Int) (w : World) (hv : IntsAt w v zs) (hn6 : zs.length ≤ 1000) : Calls Tryd.prog 92 #[bm long v] w fun e w' => ∃ v', e = .returned (bm long v') ∧ Own w' w.heap.size v' zs ∧ Below w.heap.size w w' := by
  obtain ⟨i0, hi, hz0, hz1, hz2⟩ := info_parts info_int
  obtain ⟨a, ca, rfl, hv⟩ := hv
  by_cases h0 : zs.length = 0
  · obtain rfl : zs = [] := List.eq_nil_of_length_eq_zero h0
    clear hv
    have r0 := RowB.c0 (show RowB ((w.alloc (.cells (cb long (.slice a 0 ca)) 25)).alloc (.cells (cb 0 (.slice none 0 0)) 25)) w.heap.size long (.slice a 0 ca) from (Row.new w 25 (cb long _)).alloc _)
    have r1 := RowB.c1 (show RowB ((w.alloc (.cells (cb long (.slice a 0 ca)) 25)).alloc (.cells (cb 0 (.slice none 0 0)) 25)) w.heap.size long (.slice a 0 ca) from (Row.new w 25 (cb long _)).alloc _)
    go_enter Tryd.func92, Tryd.ntmps92
    go_wp2_with fail
    cases a with
    | none =>
      go_region_held3 (fun w' => w'.cell? ⟨w.heap.size, 0, none⟩ = some (.int .i64 long) ∧ w'.cell? ⟨w.heap.size, 1, none⟩ = some (.slice none 0 ca)) (go_keep) (fail)
      go_wp2
      exact bodyPost_ret (v := bm long (.slice (some ⟨w.heap.size + 1 + 1, 0, none⟩) 0 0)) (by simp [results, Tryd.results92, go_sem]) rfl ⟨_, rfl, ⟨rfl, .inr ⟨w.heap.size + 1 + 1, 0, #[], rfl, by omega, Row.new2 w _ _ 3 #[], Nat.le_refl _, by decide, rfl, rfl⟩⟩, below_drew ((((Below.refl _ _).alloc (Nat.le_refl _) _).alloc (by simp) _).alloc (by simp; omega) _)⟩
    | some ad =>
      go_region_held3 (fun w' => w'.cell? ⟨w.heap.size, 0, none⟩ = some (.int .i64 long) ∧ w'.cell? ⟨w.heap.size, 1, none⟩ = some (.slice (some ad) 0 ca)) (go_keep) (fail)
      go_wp2
      exact bodyPost_ret (v := bm long (.slice (some ⟨w.heap.size + 1 + 1, 0, none⟩) 0 0)) (by simp [results, Tryd.results92, go_sem]) rfl ⟨_, rfl, ⟨rfl, .inr ⟨w.heap.size + 1 + 1, 0, #[], rfl, by omega, Row.new2 w _ _ 3 #[], Nat.le_refl _, by decide, rfl, rfl⟩⟩, below_drew ((((Below.refl _ _).alloc (Nat.le_refl _) _).alloc (by simp) _).alloc (by simp; omega) _)⟩
  · obtain ⟨b, off, rfl, hc⟩ := hv (by omega)
    have hbw := block_lt_of_cell (hc 0 (by omega))
    have HC := Lib.hid hc
    clear hv hc
    obtain ⟨n, hn⟩ : ∃ n, n = zs.length := ⟨_, rfl⟩
    have HN := Lib.hid hn
    rw [← hn] at h0 hn6 ⊢
    clear hn
    have r0 := RowB.c0 (show RowB ((w.alloc (.cells (cb long (.slice (some ⟨b, off, none⟩) n ca)) 25)).alloc (.cells (cb 0 (.slice none 0 0)) 25)) w.heap.size long (.slice (some ⟨b, off, none⟩) n ca) from (Row.new w 25 (cb long _)).alloc _)
    have r1 := RowB.c1 (show RowB ((w.alloc (.cells (cb long (.slice (some ⟨b, off, none⟩) n ca)) 25)).alloc (.cells (cb 0 (.slice none 0 0)) 25)) w.heap.size long (.slice (some ⟨b, off, none⟩) n ca) from (Row.new w 25 (cb long _)).alloc _)
    have HR : Hid (RowB ((((w.alloc (.cells (cb long (.slice (some ⟨b, off, none⟩) n ca)) 25)).alloc (.cells (cb 0 (.slice none 0 0)) 25)).alloc (.cells #[] 3)).drew) (w.heap.size + 1) 0 (.slice none 0 0)) := (Row.new1 w _ 25 (cb 0 (.slice none 0 0))).alloc _
    have HL : Hid (Below w.heap.size w ((((w.alloc (.cells (cb long (.slice (some ⟨b, off, none⟩) n ca)) 25)).alloc (.cells (cb 0 (.slice none 0 0)) 25)).alloc (.cells #[] 3)).drew)) := below_drew ((((Below.refl _ _).alloc (Nat.le_refl _) _).alloc (by simp) _).alloc (by simp; omega) _)
    have HCX : Hid (∀ j u, (zs.map (Value.int .i64))[j]? = some u → ((((w.alloc (.cells (cb long (.slice (some ⟨b, off, none⟩) n ca)) 25)).alloc (.cells (cb 0 (.slice none 0 0)) 25)).alloc (.cells #[] 3)).drew).cell? ((⟨b, off, none⟩ : Addr).add j) = some u) := fun j u hu => by
      have hj : j < zs.length := by
        have := (List.getElem?_eq_some_iff.1 hu).1
        simpa using this
      have q := HC.out j hj
      have q' := (HL.out.cell (p := ⟨b, off + j, none⟩) hbw).trans q
      have hadd : (⟨b, off, none⟩ : Addr).add j = ⟨b, off + j, none⟩ := by unfold Addr.add; split <;> simp_all
      rw [hadd, q']
      rw [List.getElem?_map, List.getElem?_eq_getElem hj] at hu
      simp [List.getD, List.getElem?_eq_getElem hj]
      simpa using hu
    have HM : Hid (Below w.heap.size w ((((w.alloc (.cells (cb long (.slice (some ⟨b, off, none⟩) n ca)) 25)).alloc (.cells (cb 0 (.slice none 0 0)) 25)).alloc (.cells #[] 3)).drew)) := HL
    go_enter Tryd.func92, Tryd.ntmps92
    go_wp2_with fail
    go_region_held3 (fun w' => w'.cell? ⟨w.heap.size, 0, none⟩ = some (.int .i64 long) ∧ w'.cell? ⟨w.heap.size, 1, none⟩ = some (.slice (some ⟨b, off, none⟩) n ca))
      (first
        | go_keep
        | (go_split_ands
           refine ⟨?_, ?_⟩
           · (rw [hgrow.cell_far _ (by simp; omega) (fun h => by simp [Value.ownBlock] at h; omega)]; assumption)
           · (rw [hgrow.cell_far _ (by simp; omega) (fun h => by simp [Value.ownBlock] at h; omega)]; assumption)))
      ((refine step_append_lies _ (by rfl) _ _ _ (by rfl) w.heap.size 3 i0 _ 1 8 Tryd.underlying23 hi hz0 hz1 hz2 rfl (by omega) (.slice (some ⟨w.heap.size + 1 + 1, 0, none⟩) 0 0) 0 [] (by rfl)
          ⟨rfl, .inr ⟨w.heap.size + 1 + 1, 0, #[], rfl, by omega, Row.new2 w _ _ 3 #[], Nat.le_refl _, by decide, rfl, rfl⟩⟩
          ⟨b, off, none⟩ n ca (zs.map (Value.int .i64)) (by rfl) (by rw [List.length_map, Nat.mul_one]; exact HN.out.symm) HCX.out (by simp [Value.oneCell']) (by omega) (by unfold maxLen; omega) (by omega) (by simp; omega) (w.heap.size + 1 + 1 + 1) (by simp) ?_; intro gg cap w1 hown1 hgrow hat hlt
        have RR := Row.grownBy HR.out hgrow (by simp [Value.ownBlock])
        have d0 := RowB.c0 RR
        have d1 := RowB.c1 RR
        have z0 := Row.frozen RR 0
        have z1 := Row.frozen RR 1))
    have hgg : w.heap.size + 1 + 1 ≤ gg := by
      rcases hat with h | h
      · simp [Value.ownBlock] at h; omega
      · omega
    have SR := rowB_set2 RR long (.slice (some ⟨gg, 0, none⟩) n cap)
    have O1 : Own w1 w.heap.size (.slice (some ⟨gg, 0, none⟩) n cap) zs := by
      unfold Own
      rw [← HN.out]
      simpa using hown1
    have OW := Own.set (a := ⟨w.heap.size + 1, 1, none⟩) (x := .slice (some ⟨gg, 0, none⟩) n cap) (Own.set (a := ⟨w.heap.size + 1, 0, none⟩) (x := .int .i64 long) O1 (fun b hb => by cases hb; simp; omega)) (fun b hb => by cases hb; simp; omega)
    have BE := ((HM.out.grown hgrow (by simp; omega) (fun k hk => by simp [Value.ownBlock] at hk; omega)).setCell (p := ⟨w.heap.size + 1, 0, none⟩) (by simp) (.int .i64 long)).setCell (p := ⟨w.heap.size + 1, 1, none⟩) (by simp) (.slice (some ⟨gg, 0, none⟩) n cap)
    generalize (w1.setCell ⟨w.heap.size + 1, 0, none⟩ (.int .i64 long)).setCell ⟨w.heap.size + 1, 1, none⟩ (.slice (some ⟨gg, 0, none⟩) n cap) = w5 at *
    go_wp2
    exact bodyPost_ret (res_row Tryd.results92 SR rfl Tryd.underlying25 rfl info_bits) rfl ⟨_, rfl, OW, BE⟩

set_option maxHeartbeats 800000 in
theorem c_l2Set (long : Int) (g n c : Nat) (zs : List Int) (p : Nat) (on : Bool) (B : Nat) (w : World) (ho : Own w B (.slice (some ⟨g, 0, none⟩) n c) zs) (hm : zs.length ≤ 1000) (hp : p < 16 * zs.length) :
    Calls Tryd.prog 55 #[bm long (.slice (some ⟨g, 0, none⟩) n c), .int .i64 p, .bool on] w fun e w' => e = .returned (.tuple #[]) ∧ Own w' B (.slice (some ⟨g, 0, none⟩) n c) (setBit zs p on) ∧ w.grownBy w' (some g) := by
  have hn : n = zs.length := by
    have := ho.ints
    obtain ⟨_, _, e, _⟩ := this
    simp at e
    exact e.2.1
  subst hn
  obtain ⟨j, hj⟩ : ∃ j : Nat, j = p / 16 := ⟨_, rfl⟩
  obtain ⟨r, hr⟩ : ∃ r : Nat, r = p % 16 := ⟨_, rfl⟩
  have e1 : (p : Int) / 16 = (j : Int) := by omega
  have e2 : (p : Int) % 16 = (r : Int) := by omega
  have hr16 : r < 16 := by omega
  have hjn : j < zs.length := by omega
  have hj1 : (j : Int) < (zs.length : Int) := by omega
  have hp0 : (0 : Int) ≤ (p : Int) := by omega
  have hp1 : (p : Int) ≤ 16777216 := by omega
  have hlt := Own.lt_of ho
  have hfr := World.ownsRow.frozenAt ho j
  have q : w.cell? ⟨g, j, none⟩ = some (.int .i64 (zs.getD j 0)) := by
    rw [World.ownsRow.cellAt ho j (by omega), List.getElem?_map, List.getElem?_eq_getElem hjn]
    simp [List.getD, List.getElem?_eq_getElem hjn]
  have hpw : Go.RowKit.wrap64 ((2 : Int) ^ r) = 2 ^ r := by
    have h := w_pow hr16
    unfold W16 at h
    unfold Go.RowKit.wrap64
    omega
  have E : Hid (setBit zs p on = zs.set j (if on then bits .or .i64 (zs.getD j 0) (2 ^ r) else bits .andNot .i64 (zs.getD j 0) (2 ^ r))) := by unfold Hid setBit; rw [hj, hr]
  have S : Hid (∀ (x : Int) (o : Obj), Own ((w.setCell ⟨g, j, none⟩ (.int .i64 x)).alloc o) B (.slice (some ⟨g, 0, none⟩) zs.length c) (zs.set j x) ∧ w.grownBy ((w.setCell ⟨g, j, none⟩ (.int .i64 x)).alloc o) (some g)) := fun x o => by
    obtain ⟨s1, s2⟩ := World.ownsRow.stored ho j (.int .i64 x)
    have s3 : Own (w.setCell ⟨g, j, none⟩ (.int .i64 x)) B (.slice (some ⟨g, 0, none⟩) zs.length c) (zs.set j x) := by
      unfold Own
      rw [List.length_set, List.map_set]
      exact s1
    exact ⟨s3.below ((Below.refl _ _).alloc (Nat.le_refl _) o), grownBy_trans s2 ⟨rfl, rfl, rfl, by simp, fun i hi _ => Below.heap_alloc _ _ i hi⟩⟩
  rw [E.out]
  clear hj hr E ho
  generalize hnn : zs.length = n at *
  clear hnn
  generalize zs.getD j 0 = z at *
  have hne : g ≠ w.heap.size := by omega
  cases on
  all_goals
    go_enter Tryd.func55, Tryd.ntmps55
    go_wp2
    go_end0
    exact ⟨rfl, S.out _ _⟩
end Go.Proofs.YtcelebblcjhpaaaDoor
