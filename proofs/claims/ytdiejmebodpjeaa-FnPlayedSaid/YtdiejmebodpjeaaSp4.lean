/- The reference's runs of a list of pages. -/
import Derived.Test.YtdiejmebodpjeaaSp3
namespace Go.Proofs.Ytdiejmebodpjeaa.Pr
theorem addPage_skip {f : Nat → Bool} {k : Nat} {out : List R} (h : f k = false) : addPage f k out = out := by simp [addPage, h]
theorem addPage_nil {f : Nat → Bool} {k : Nat} (h : f k = true) : addPage f k [] = [((k : Int), 1)] := by simp [addPage, h]
theorem last_of {out : List R} {j : Nat} (hl : out.length = j + 1) : out.getLast? = some (out.getD j (0, 0)) := by
  rw [List.getLast?_eq_getElem?]
  simp [List.getD, hl]
theorem addPage_new {f : Nat → Bool} {k j : Nat} {out : List R} (h : f k = true) (hl : out.length = j + 1) (hne : ¬ (out.getD j (0, 0)).1 + (out.getD j (0, 0)).2 = (k : Int)) : addPage f k out = out ++ [((k : Int), 1)] := by
  unfold addPage
  rw [h, last_of hl]
  simp only [if_true]
  rw [if_neg hne]
theorem set_last {out : List R} {j : Nat} (hl : out.length = j + 1) (x : R) : out.set j x = out.dropLast ++ [x] := by
  have hne : out ≠ [] := by intro e; rw [e] at hl; simp at hl
  obtain ⟨pre, l, rfl⟩ : ∃ pre l, out = pre ++ [l] := ⟨out.dropLast, out.getLast hne, (List.dropLast_concat_getLast hne).symm⟩
  have : pre.length = j := by simp at hl; exact hl
  subst this
  simp
theorem addPage_join {f : Nat → Bool} {k j : Nat} {out : List R} (h : f k = true) (hl : out.length = j + 1) (he : (out.getD j (0, 0)).1 + (out.getD j (0, 0)).2 = (k : Int)) : addPage f k out = out.set j ((out.getD j (0, 0)).1, (out.getD j (0, 0)).2 + 1) := by
  unfold addPage
  rw [h, last_of hl, set_last hl]
  simp only [if_true]
  rw [if_pos he]
end Go.Proofs.Ytdiejmebodpjeaa.Pr
namespace Go.Proofs.Ytdiejmebodpjeaa
open Go.RowKit Go.Maps Go.Sort Pr

theorem OwnR.store1 {w : World} {B g n c : Nat} {zs : List (Int × Int)} (h : OwnR w B (.slice (some ⟨g, 0, none⟩) n c) zs) (hn : zs.length = n) {j : Nat} (hj : j < n) (y : Int) :
    OwnR (w.setCell ⟨g, j * 2 + 1, none⟩ (.int .i64 y)) B (.slice (some ⟨g, 0, none⟩) n c) (zs.set j ((zs.getD j (0, 0)).1, y)) ∧ w.grownBy (w.setCell ⟨g, j * 2 + 1, none⟩ (.int .i64 y)) (some g) := by
  unfold OwnR at h
  rw [hn] at h
  obtain ⟨s1, s2⟩ := h.stored (j * 2 + 1) (.int .i64 y)
  refine ⟨?_, s2⟩
  unfold OwnR
  rw [List.length_set, hn]
  rw [flat_set1 zs j y (by omega)] at s1
  exact s1
theorem OwnR.some {w : World} {B : Nat} {v : Value} {rs : List R} (h : OwnR w B v rs) (h0 : 0 < rs.length) : ∃ g c, v = .slice (some ⟨g, 0, none⟩) rs.length c := by
  rcases h.2 with ⟨_, h2⟩ | ⟨g, cap, cur, rfl, _⟩
  · omega
  · exact ⟨g, cap, rfl⟩

set_option maxRecDepth 100000 in
set_option maxHeartbeats 3200000 in
theorem s_l3Runs (f : Nat → Bool) (B g : Nat) (w : World) (hO : OwnB w B g (bl f)) :
    Calls Try.prog 54 #[.slice (some ⟨g, 0, none⟩) 32 32] w fun e w' => ∃ v, e = .returned v ∧ OwnR w' w.heap.size v (runsOf f 32) ∧ Below w.heap.size w w' := by
  have HC : Hid (∀ p, p < 32 → w.cell? ⟨g, p, none⟩ = some (.bool (f p))) := fun p hp => (hO.cell hp).1
  clear hO
  go_enter Try.func54, Try.ntmps54
  go_wp2
  go_loopw [3, 9] (fun v i wr => ∃ k : Nat, k ≤ 32 ∧ i = .int .i64 k ∧ OwnR wr w.heap.size v (runsOf f k) ∧ Below w.heap.size w wr) (fun _ i _ => 32 - (intOf i).toNat)
  case atStart => exact ⟨0, Nat.zero_le _, rfl, ⟨rfl, .inl ⟨rfl, rfl⟩⟩, Below.refl _ _⟩
  case round =>
    obtain ⟨k, hk, rfl, hown, hbr⟩ := hrel
    by_cases hlt : k < 32
    · have q0 := cellBelow' hbr (HC.out k hlt)
      have hru := runsOf_spec f k hk
      have hsucc : runsOf f (k + 1) = addPage f k (runsOf f k) := rfl
      have hlen := good_len16 hru.good
      have hok : ∀ r ∈ runsOf f k, okR r = true := fun r hr => (good_mem hru.good r hr).1
      generalize hout : runsOf f k = out at hown hsucc hlen hok
      have i1 : (k : Int) < 32 := by omega
      clear hru hout
      cases hf : f k with
      | false =>
        rw [hf] at q0
        have HS : Hid (runsOf f (k + 1) = out) := by unfold Hid; rw [hsucc, addPage_skip hf]
        obtain ⟨a3, c3, rfl, _⟩ := hown.shape
        have HO := Lib.hid hown
        clear hsucc hown hok hlen
        generalize out.length = nn at *
        go_wp2
        go_roundw
        case rel => exact ⟨k + 1, by omega, by go_num, by rw [HS.out]; exact HO.out, hbr⟩
        case measure => simp [intOf]; omega
      | true =>
        rw [hf] at q0
        by_cases h0 : out.length = 0
        · obtain rfl : out = [] := List.eq_nil_of_length_eq_zero h0
          have HS : Hid (runsOf f (k + 1) = [] ++ [((k : Int), 1)]) := by unfold Hid; rw [hsucc, addPage_nil hf]; rfl
          obtain ⟨a3, c3, rfl, _⟩ := hown.shape
          have HO := Lib.hid hown
          have hws := hbr.size
          clear hsucc hown hok hlen h0
          simp only [List.length_nil] at HO ⊢
          go_wp2
          go_quiet (fail)
          generalize hw5 : World.drewN wr _ = w5
          have O5 : OwnR w5 w.heap.size (.slice a3 0 c3) [] := by rw [← hw5]; exact HO.out
          have B5 : Below w.heap.size w w5 := by rw [← hw5]; exact below_drewN hbr _
          have S5 : w.heap.size ≤ w5.heap.size := B5.size
          clear hw5
          go_wp2_with (first
            | (at_builtin; refine wl_appR (w := w5) rfl _ _ rfl w.heap.size (.slice a3 0 c3) [] k 1 rfl O5 rfl (by simp) S5 ?_; intro v3 w3 hown3 hg3 hnil3; go_frame)
            | go_in)
          have hb3 := (B5.alloc S5 (.cells #[.int .i64 k, .int .i64 1] 33)).grown hg3 (by simp; omega) (fun q hq => (World.ownsRow.lt O5 q hq).1)
          go_roundw
          case rel => exact ⟨k + 1, by omega, by go_num, by rw [HS.out]; exact hown3, hb3⟩
          case measure => simp [intOf]; omega
        · obtain ⟨j, hj⟩ : ∃ j, out.length = j + 1 := ⟨out.length - 1, by omega⟩
          obtain ⟨g3, c3, rfl⟩ := hown.some (by omega)
          obtain ⟨d0, d1, _, d3⟩ := hown.cells rfl (j := j) (by omega)
          have hzo := (okR_iff _).1 (hok _ (getD_mem (rs := out) (k := j) (by omega)))
          have hj2 : (j : Int) < ((j : Int) + 1) := by omega
          have i3 : IntKind.i64.wrap (j : Int) = j := IntWalk.i64_in _ (by omega)
          by_cases he : (out.getD j (0, 0)).1 + (out.getD j (0, 0)).2 = (k : Int)
          · have hset := addPage_join hf hj he
            obtain ⟨s1, s2⟩ := hown.store1 rfl (j := j) (by omega) ((out.getD j (0, 0)).2 + 1)
            rw [← hset, ← hsucc] at s1
            clear hset hsucc hok
            generalize out.getD j (0, 0) = z at *
            obtain ⟨z1, z2⟩ := z
            simp only [] at d0 d1 hzo he s1 s2
            have i4 : IntKind.i64.wrap (z1 + z2) = z1 + z2 := IntWalk.i64_in _ (by omega)
            have e1 : (z1 + z2 == (k : Int)) = true := by simpa using he
            have HO := Lib.hid hown
            have S1 := Lib.hid s1
            have SB := Lib.hid (hbr.grown s2 hbr.size (fun q hq => (World.ownsRow.lt HO.out q hq).1))
            rw [hj] at HO S1 ⊢
            clear hown s1 s2 he h0 hlen hj
            go_wp2
            go_quiet (fail)
            go_wp2
            go_roundw
            case rel => exact ⟨k + 1, by omega, by go_num, S1.out, below_drewN SB.out _⟩
            case measure => simp [intOf]; omega
          · have HS : Hid (runsOf f (k + 1) = out ++ [((k : Int), 1)]) := by unfold Hid; rw [hsucc, addPage_new hf hj he]
            clear hsucc hok
            generalize out.getD j (0, 0) = z at *
            obtain ⟨z1, z2⟩ := z
            simp only [] at d0 d1 hzo he
            have i4 : IntKind.i64.wrap (z1 + z2) = z1 + z2 := IntWalk.i64_in _ (by omega)
            have e1 : (z1 + z2 == (k : Int)) = false := by simpa using he
            have HO := Lib.hid hown
            have HL := Lib.hid hlen
            have hws := hbr.size
            rw [hj] at HO ⊢
            clear hown he h0 hlen hj
            go_wp2
            go_quiet (fail)
            generalize hw5 : World.drewN wr _ = w5
            have O5 : OwnR w5 w.heap.size (.slice (some ⟨g3, 0, none⟩) (j + 1) c3) out := by rw [← hw5]; exact HO.out
            have B5 : Below w.heap.size w w5 := by rw [← hw5]; exact below_drewN hbr _
            have S5 : w.heap.size ≤ w5.heap.size := B5.size
            clear hw5
            go_wp2_with (first
              | (at_builtin; refine wl_appR (w := w5) rfl _ _ rfl w.heap.size (.slice (some ⟨g3, 0, none⟩) (j + 1) c3) out k 1 rfl O5 rfl (by have := HL.out; omega) S5 ?_; intro v3 w3 hown3 hg3 hnil3; go_frame)
              | go_in)
            have hb3 := (B5.alloc S5 (.cells #[.int .i64 k, .int .i64 1] 33)).grown hg3 (by simp; omega) (fun q hq => (World.ownsRow.lt O5 q hq).1)
            go_roundw
            case rel => exact ⟨k + 1, by omega, by go_num, by rw [HS.out]; exact hown3, hb3⟩
            case measure => simp [intOf]; omega
    · obtain rfl : k = 32 := by omega
      go_wp2
      go_ret
      exact ⟨_, rfl, hown, hbr⟩
end Go.Proofs.Ytdiejmebodpjeaa
