/- Maps from the first page of a run to its length: made, listed in order. -/
import Derived.Test.YtdiejmebodpjeaaRn6
import Derived.Test.YtdiejmebodpjeaaPg
import Derived.Test.YtdiejmebodpjeaaSrt
import Derived.Maps.OwnOps
import Derived.Maps.OwnSet
import Derived.Maps.RangeWalk
import Derived.Sort.OwnSorted
import Derived.Sort.OwnSortedInts
namespace Go.Proofs.Ytdiejmebodpjeaa
open Go.RowKit Go.Maps Pr

theorem lawI : Keyed Try.prog 3 := int_keyed Try.underlying3
theorem zeroI (w : World) : (zeroValue 3).run Try.prog w = .ok (.int .i64 0) w := by kernel_rfl
/-- Block b is a map of at most n entries that holds the runs rs, in order. -/
def MapR (w : World) (b n : Nat) (rs : List (Int × Int)) : Prop := w.ownsMap Try.prog 3 (plainElem Try.prog 3) b n (mapD Unit rs)
theorem wfI {x : Int} (h : -9223372036854775808 ≤ x ∧ x ≤ 9223372036854775807) : (Lit.int .i64 x).wf = true := WalkArith.wf_i64 (by omega)
theorem keyI {x : Int} (h : -9223372036854775808 ≤ x ∧ x ≤ 9223372036854775807) : keyOf Try.prog 3 (.int .i64 x) = some (.int .i64 x) := keyOf_int_mk Try.underlying3 (wfI h)
theorem MapR.below {w w' : World} {b n : Nat} {rs : List (Int × Int)} (h : MapR w b n rs) (hb : Below w.heap.size w w') : MapR w' b n rs := by
  obtain ⟨es, clock, h1, r⟩ := id h
  exact ⟨es, clock, by rw [hb.block b (World.ownsMap.lt h)]; exact h1, r⟩
theorem MapR.belowB {w w' : World} {B b n : Nat} {rs : List (Int × Int)} (h : MapR w b n rs) (hb : Below B w w') (hB : b < B) : MapR w' b n rs := by
  obtain ⟨es, clock, h1, r⟩ := id h
  exact ⟨es, clock, by rw [hb.block b hB]; exact h1, r⟩
theorem MapR.kept {w w' : World} {b n : Nat} {rs : List (Int × Int)} {row : Option Nat} (h : MapR w b n rs) (hg : w.grownBy w' row) (hne : some b ≠ row) : MapR w' b n rs := World.ownsMap.kept h hg hne
theorem run_makeMapR (n : Int) (w : World) : (Instr.makeMap 63 (some (.int .i64 n))).run Try.prog w = .ok (.map (some w.heap.size)) (w.alloc (.map #[] 0)) := by
  simp [Instr.makeMap, run_underlying Try.underlying63, asInt, asIntOf, Result.andThen]
theorem take_append_getD {rs : List R} {k : Nat} (h : k < rs.length) : rs.take (k + 1) = rs.take k ++ [rs.getD k (0, 0)] := by
  have e : rs.getD k (0, 0) = rs[k] := by simp [List.getD, List.getElem?_eq_getElem h]
  rw [List.take_succ_eq_append_getElem h, e]
theorem put_take {rs : List R} {k : Nat} (hs : SortK rs) (h : k < rs.length) : putR (rs.getD k (0, 0)).1 (rs.getD k (0, 0)).2 (rs.take k) = rs.take (k + 1) := by
  rw [take_append_getD h]
  refine putR_end fun r hr => ?_
  have e : rs.take (k + 1) = rs.take k ++ [rs.getD k (0, 0)] := take_append_getD h
  have hp : SortK (rs.take k ++ [rs.getD k (0, 0)]) := e ▸ (hs.sublist (List.take_sublist _ _))
  exact (List.pairwise_append.1 hp).2.2 r hr _ (by simp)

set_option maxHeartbeats 1600000 in
theorem c_freeRunsOf (v : Value) (rs : List (Int × Int)) (w : World) (hA : RunsAt w v rs) (hg : good 0 rs = true) :
    Calls Try.prog 44 #[v] w fun e w' => e = .returned (.map (some w.heap.size)) ∧ MapR w' w.heap.size 16 rs ∧ Below w.heap.size w w' := by
  have hlen := good_len16 hg
  have HS := Lib.hid (good_sort hg)
  have HG := Lib.hid hg
  obtain ⟨a, ca, rfl, hA⟩ := hA
  clear hg
  generalize hn : rs.length = n at *
  have HN := Lib.hid hn; clear hn
  have HA := Lib.hid hA; clear hA
  have hmm := run_makeMapR (n : Int)
  go_enter Try.func44, Try.ntmps44
  go_wp2
  go_loopw [11] (fun i wr => ∃ k : Nat, k ≤ n ∧ i = .int .i64 k ∧ MapR wr w.heap.size k (rs.take k) ∧ Below w.heap.size w wr) (fun i _ => n - (intOf i).toNat)
  case atStart => exact ⟨0, Nat.zero_le _, rfl, World.ownsMap_made w _ _ _, (Below.refl _ _).alloc (Nat.le_refl _) _⟩
  case round =>
    obtain ⟨k, hk, rfl, hm, hbr⟩ := hrel
    by_cases hlt : k < n
    · obtain ⟨b, off, rfl, hcc⟩ := HA.out (by omega)
      obtain ⟨p0, p1⟩ := hcc k hlt
      have q0 := cellBelow' hbr p0
      have q1 := cellBelow' hbr p1
      clear p0 p1 hcc
      have hkl : k < rs.length := by rw [HN.out]; exact hlt
      have hzo := (okR_iff _).1 (good_mem HG.out _ (getD_mem hkl)).1
      have hpt := put_take HS.out hkl
      generalize rs.getD k (0, 0) = z at q0 q1 hzo hpt
      obtain ⟨z1, z2⟩ := z
      simp only [] at q0 q1 hzo hpt
      have HPT := Lib.hid hpt
      have i1 : (k : Int) < (n : Int) := by omega
      have HB1 := Lib.hid (bst hbr (below1 wr (.cells (cr (z1, z2)) 33)) hbr.size)
      have HM := Lib.hid (hm.below (below1 wr (.cells (cr (z1, z2)) 33)))
      clear hbr hm hpt hkl
      go_wp2_with (first
        | (at_mapUpdate; refine wpList_mapUpdate_own _ rfl _ _ _ 63 rfl 3 3 lawI Try.underlying63 _ w.heap.size k _ rfl HM.out (by unfold maxLen; omega) _ _ _ rfl rfl (keyI (by omega)) _ [] (plainElem_int Try.underlying3 (wfI (by omega))) ?_; intro w1 hown1 hgrow1; go_frame)
        | go_in)
      rw [put_mapD, HPT.out] at hown1
      go_roundw
      case rel => exact ⟨k + 1, by omega, by go_num, hown1, HB1.out.grown hgrow1 HB1.out.size (fun j hj => by cases hj; exact Nat.le_refl _)⟩
      case measure => simp [intOf]; omega
    · obtain rfl : k = n := by omega
      have HE : Hid (rs.take k = rs) := by unfold Hid; exact List.take_of_length_le (by rw [HN.out]; omega)
      rw [HE.out] at hm
      go_wp2
      go_ret
      exact ⟨rfl, World.ownsMap.mono hm hlen, hbr⟩
end Go.Proofs.Ytdiejmebodpjeaa
