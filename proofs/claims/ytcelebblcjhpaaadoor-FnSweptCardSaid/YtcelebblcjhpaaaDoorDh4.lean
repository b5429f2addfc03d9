/- The laws' helpers over spans that the drawn laws call. -/
import Derived.Test.YtcelebblcjhpaaaDoorDf4
namespace Go.Proofs.YtcelebblcjhpaaaDoor
open Go.RowKit Pb

set_option maxHeartbeats 1600000 in
theorem c_sameBits (la lb : Int) (va vb : Value) (za zb : List Int) (w : World) (hA : IntsAt w va za) (hB : IntsAt w vb zb) (hm : za.length ≤ 9223372036854775806) :
    Calls Tryd.prog 56 #[bm la va, bm lb vb] w fun e w' => e = .returned (.bool (decide (la = lb ∧ za = zb))) ∧ Below w.heap.size w w' := by
  have b2 : Below w.heap.size w ((w.alloc (.cells (cb la va) 25)).alloc (.cells (cb lb vb) 25)) := ((Below.refl w.heap.size w).alloc (Nat.le_refl _) _).alloc (by simp) _
  have r0 : RowB ((w.alloc (.cells (cb la va) 25)).alloc (.cells (cb lb vb) 25)) w.heap.size la va := (Row.new w 25 (cb la va)).alloc _
  have r1 : RowB ((w.alloc (.cells (cb la va) 25)).alloc (.cells (cb lb vb) 25)) (w.heap.size + 1) lb vb := Row.new1 w _ 25 (cb lb vb)
  have A2 := Lib.hid (hA.below b2); have B2 := Lib.hid (hB.below b2); have W2 := Lib.hid b2; have M2 := Lib.hid hm
  obtain ⟨aa, ca, ea, _⟩ := hA
  obtain ⟨ab, c4, eb, _⟩ := hB
  subst ea; subst eb
  clear b2 hm
  have q0 := r0.c0; have q1 := r0.c1; have q2 := r1.c0; have q3 := r1.c1
  clear r0 r1
  by_cases he : la = lb
  · subst he
    go_enter Tryd.func56, Tryd.ntmps56
    go_wp2_with fail
    refine (c_sameInts _ _ za zb _ A2.out B2.out M2.out).mono ?_
    rintro e w3 ⟨rfl, n, rfl⟩
    go_wp2
    go_ret
    exact ⟨by simp, below_drewN W2.out n⟩
  · go_enter Tryd.func56, Tryd.ntmps56
    go_wp2
    go_ret
    exact ⟨by simp [he], by exact W2.out⟩
theorem mem_of_getD {zs : List Int} {k : Nat} {x : Int} (h : k < zs.length) (e : zs.getD k 0 = x) : x ∈ zs := by
  rw [← e, List.getD, List.getElem?_eq_getElem h]; simp
theorem not_mem_all {zs : List Int} {x : Int} (h : ∀ i, i < zs.length → zs.getD i 0 ≠ x) : ¬ x ∈ zs := fun hm => by
  obtain ⟨i, hi, e⟩ := List.mem_iff_getElem.1 hm
  exact h i hi (by rw [List.getD, List.getElem?_eq_getElem hi]; simpa using e)

set_option maxHeartbeats 800000 in
theorem c_has (v : Value) (zs : List Int) (x : Int) (w : World) (hv : IntsAt w v zs) (hm : zs.length ≤ 1000) :
    Calls Tryd.prog 35 #[v, .int .i64 x] w fun e w' => e = .returned (.bool (decide (x ∈ zs))) ∧ w = w' := by
  obtain ⟨a, ca, rfl, hA⟩ := hv
  generalize hn : zs.length = n at *
  have HN := Lib.hid hn; clear hn
  by_cases h0 : n = 0
  · subst h0
    obtain rfl : zs = [] := List.eq_nil_of_length_eq_zero HN.out
    clear hA
    go_enter Tryd.func35, Tryd.ntmps35
    go_wp2
    refine wp_loop_rounds 1 ?_
    rw [rounds_succ]
    go_wp2
    go_ret
    exact ⟨r_b (by simp), rfl⟩
  · obtain ⟨ba, oa, rfl, hca⟩ := hA (by omega)
    clear hA
    have HCA := Lib.hid hca; clear hca
    go_enter Tryd.func35, Tryd.ntmps35
    go_wp2
    go_loopw [9] (fun i wr => ∃ k : Nat, k ≤ n ∧ i = .int .i64 k ∧ Hid (∀ i, i < k → zs.getD i 0 ≠ x) ∧ wr = w) (fun i _ => n - (intOf i).toNat)
    case atStart => exact ⟨0, Nat.zero_le _, rfl, fun i hi => absurd hi (Nat.not_lt_zero _), rfl⟩
    case round =>
      obtain ⟨k, hk, rfl, ht, rfl⟩ := hrel
      by_cases hlt : k < n
      · have q1 := HCA.out k hlt
        have i1 : (k : Int) < (n : Int) := by omega
        generalize hx : zs.getD k 0 = y at q1
        have HX := Lib.hid hx; clear hx
        by_cases exy : y = x
        · subst exy
          have HE : Hid (decide (y ∈ zs) = true) := decide_eq_true (mem_of_getD (by rw [HN.out]; exact hlt) HX.out)
          go_wp2
          go_ret
          exact ⟨r_b HE.out.symm, rfl⟩
        · have HNE := Lib.hid exy
          have hbq : (y == x) = false := by simpa using exy
          clear exy
          go_wp2
          go_roundw
          case rel => exact ⟨k + 1, by omega, by go_num, fun i hi => by
            rcases Nat.lt_succ_iff_lt_or_eq.1 hi with h | h
            · exact ht.out i h
            · rw [h, HX.out]; exact HNE.out, trivial⟩
          case measure => simp [intOf]; omega
      · have HE : Hid (decide (x ∈ zs) = false) := decide_eq_false (not_mem_all (fun i hi => ht.out i (by rw [HN.out] at hi; omega)))
        have i1 : ¬ (k : Int) < (n : Int) := by omega
        go_wp2
        go_ret
        exact ⟨r_b HE.out.symm, rfl⟩

set_option maxHeartbeats 1600000 in
theorem c_sameSpan (f c l : Int) (va vb : Value) (zs : List Int) (w : World) (ha : IntsAt w va zs) (hb : IntsAt w vb zs) (hm : zs.length ≤ 9223372036854775806) : Ans 15 #[sp f c l va, sp f c l vb] (.bool true) w := by
  have HB := Lib.hid (((Below.refl w.heap.size w).alloc (Nat.le_refl _) (.cells (c4 f c l va) 27)).alloc (by simp) (.cells (c4 f c l vb) 27))
  have va' := Lib.hid (ha.below HB.out)
  have vb' := Lib.hid (hb.below HB.out)
  clear ha hb
  unfold Ans
  go_enter Tryd.func15, Tryd.ntmps15
  go_wp2_with fail
  refine (c_sameBits l l va vb zs zs _ va'.out vb'.out hm).mono ?_
  rintro e w1 ⟨rfl, hb1⟩
  rw [decide_eq_true (And.intro rfl rfl)]
  have B1 := Lib.hid (bst HB.out hb1 HB.out.size)
  clear hb1
  go_wp2
  go_ret
  exact ⟨rfl, B1.out⟩

set_option maxHeartbeats 800000 in
theorem c_numberOf (v : Value) (zs : List Int) (w : World) (h : BytesAt w v zs) : Calls Tryd.prog 21 #[v] w fun e w' => ∃ x : Int, (0 ≤ x ∧ x < 1000003) ∧ e = .returned (.int .i64 x) ∧ w = w' := by
  obtain ⟨hl, hby, a, cap, rfl, hA⟩ := h
  have HBY : Hid (∀ k, k < zs.length → 0 ≤ zs.getD k 0 ∧ zs.getD k 0 ≤ 255) := fun k hk => hby _ (by simp [List.getD, List.getElem?_eq_getElem hk])
  generalize hn : zs.length = n at *
  have HA := Lib.hid hA
  clear hn hA hby
  go_enter Tryd.func21, Tryd.ntmps21
  go_wp2
  go_loop [3, 8] (fun x i => ∃ (k : Nat) (y : Int), k ≤ n ∧ i = .int .i64 k ∧ x = .int .i64 y ∧ (0 ≤ y ∧ y < 1000003)) (fun _ i => n - (intOf i).toNat)
  case atStart => exact ⟨0, 0, Nat.zero_le _, rfl, rfl, by omega⟩
  case round =>
    obtain ⟨k, y, hk, rfl, rfl, hy⟩ := hrel
    obtain ⟨hy0, hy1⟩ := id hy
    by_cases hlt : k < n
    · obtain ⟨b, off, ha2, hc⟩ := HA.out (by omega)
      have q := hc k hlt
      have hb := HBY.out k hlt
      generalize zs.getD k 0 = z at *
      obtain ⟨hb0, hb1⟩ := hb
      have i1 : (k : Int) < (n : Int) := by omega
      subst ha2
      clear hc
      go_wp2
      go_round
      case rel => exact ⟨k + 1, _, by omega, by go_num, rfl, ⟨Int.emod_nonneg _ (by omega), Int.emod_lt_of_pos _ (by omega)⟩⟩
      case measure => simp [intOf]; omega
    · have i1 : ¬ (k : Int) < (n : Int) := by omega
      go_wp2
      go_ret
      exact ⟨y, hy, rfl, rfl⟩
/-- What a slice holds, where it holds something. -/
def Holds (w : World) (g : Option Addr) (n : Nat) (zs : List Int) : Prop := 0 < n → ∃ b off, g = some ⟨b, off, none⟩ ∧ ∀ i, i < n → w.cell? ⟨b, off + i, none⟩ = some (.int .i64 (zs.getD i 0))
theorem Own.holds {w : World} {B n c : Nat} {g : Option Addr} {zs : List Int} (h : Own w B (.slice g n c) zs) : Holds w g n zs := by
  obtain ⟨a, ca, e, hc⟩ := h.ints
  injection e with e1 e2 e3
  subst e1; subst e2
  exact hc
end Go.Proofs.YtcelebblcjhpaaaDoor
