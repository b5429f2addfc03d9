/- The list of a map's runs. -/
import Derived.Test.YtdiejmebodpjeaaMw2
namespace Go.Proofs.Ytdiejmebodpjeaa
open Go.RowKit Go.Maps Go.Sort Pr

/-- append of one run to a slice that the call owns. -/
theorem wl_appR {ops : Array Oper} {rest : List Oper} {o : Oper} {a : Act} {w : World} {Q : Exit → Act → World → Prop} (hgd : o.guard = none) (s x : Operand) (ho : o.op = .call { callee := .builtin .append, args := #[s, x], argTypes := #[23, 23] })
    (B : Nat) (v : Value) (rs : List R) (y z : Int) (hs : a.eval s = v) (hown : OwnR w B v rs) (hx : a.eval x = .slice (some ⟨w.heap.size, 0, none⟩) 1 1) (hlen : rs.length ≤ 1000) (hb : B ≤ w.heap.size)
    (h : ∀ v' w', OwnR w' B v' (rs ++ [(y, z)]) → (w.alloc (.cells #[.int .i64 y, .int .i64 z] 33)).grownBy w' v.ownBlock → v' ≠ .slice none 0 0 → wpList Try.prog ops Q rest (a.put o.dst v') w') : wpList Try.prog ops Q (o :: rest) a (w.alloc (.cells #[.int .i64 y, .int .i64 z] 33)) := by
  obtain ⟨i0, hi, hz0, hz1, hz2⟩ := info_parts info_runs
  have hr := Row.new w 33 #[.int .i64 y, .int .i64 z]
  refine wpList_append_own (w := w.alloc (.cells #[.int .i64 y, .int .i64 z] 33)) hgd s x 23 ho B 33 i0 (.agg #[.int .i64 0, .int .i64 0]) 2 16 Try.underlying23 hi hz0 hz1 hz2 rfl (by decide) v rs.length (flat rs) hs (World.ownsRow.alloc hown _) ⟨w.heap.size, 0, none⟩ 1 1 [.int .i64 y, .int .i64 z] hx rfl ?_ ?_ ?_ ?_ ?_ ?_
  · intro j u hj
    match j, hj with
    | 0, hj => simp at hj; subst hj; exact hr.cell 0
    | 1, hj => simp at hj; subst hj; exact hr.cell 1
  · intro u hu; simp at hu; rcases hu with rfl | rfl <;> rfl
  · unfold maxLen; omega
  · omega
  · simp; omega
  · intro v' w' ho' hg hn
    refine h v' w' ?_ hg (fun e => by have := (hn.1 e).2; omega)
    unfold OwnR
    rw [flat_append]
    simpa [flat] using ho'
theorem wl_appRg {ops : Array Oper} {rest : List Oper} {o : Oper} {a : Act} {w : World} {Q : Exit → Act → World → Prop} (hgd : o.guard = none) (s x : Operand) (ho : o.op = .call { callee := .builtin .append, args := #[s, x], argTypes := #[23, 23] })
    (B g : Nat) (hg : w.heap.size = g) (v : Value) (rs : List R) (y z : Int) (hs : a.eval s = v) (hown : OwnR w B v rs) (hx : a.eval x = .slice (some ⟨g, 0, none⟩) 1 1) (hlen : rs.length ≤ 1000) (hb : B ≤ w.heap.size)
    (h : ∀ v' w', OwnR w' B v' (rs ++ [(y, z)]) → (w.alloc (.cells #[.int .i64 y, .int .i64 z] 33)).grownBy w' v.ownBlock → v' ≠ .slice none 0 0 → wpList Try.prog ops Q rest (a.put o.dst v') w') : wpList Try.prog ops Q (o :: rest) a (w.alloc (.cells #[.int .i64 y, .int .i64 z] 33)) := by
  subst hg
  exact wl_appR hgd s x ho B v rs y z hs hown hx hlen hb h
theorem wl_appRfit {ops : Array Oper} {rest : List Oper} {o : Oper} {a : Act} {w : World} {Q : Exit → Act → World → Prop} (hgd : o.guard = none) (s x : Operand) (ho : o.op = .call { callee := .builtin .append, args := #[s, x], argTypes := #[23, 23] })
    (B g k cap : Nat) (rs : List R) (y z : Int) (hs : a.eval s = .slice (some ⟨g, 0, none⟩) k cap) (hown : OwnR w B (.slice (some ⟨g, 0, none⟩) k cap) rs) (hk : rs.length = k) (hx : a.eval x = .slice (some ⟨w.heap.size, 0, none⟩) 1 1) (hc : k + 1 ≤ cap)
    (h : ∀ w', OwnR w' B (.slice (some ⟨g, 0, none⟩) (k + 1) cap) (rs ++ [(y, z)]) → (w.alloc (.cells #[.int .i64 y, .int .i64 z] 33)).grownBy w' (some g) → wpList Try.prog ops Q rest (a.put o.dst (.slice (some ⟨g, 0, none⟩) (k + 1) cap)) w') : wpList Try.prog ops Q (o :: rest) a (w.alloc (.cells #[.int .i64 y, .int .i64 z] 33)) := by
  obtain ⟨i0, hi, hz0, hz1, hz2⟩ := info_parts info_runs
  have hr := Row.new w 33 #[.int .i64 y, .int .i64 z]
  unfold OwnR at hown
  rw [hk] at hown
  refine wpList_append_fits (w.alloc (.cells #[.int .i64 y, .int .i64 z] 33)) hgd s x 23 ho B 33 i0 2 Try.underlying23 hi hz1 g k cap (flat rs) hs (World.ownsRow.alloc hown _) ⟨w.heap.size, 0, none⟩ 1 1 [.int .i64 y, .int .i64 z] hx rfl ?_ ?_ hc ?_
  · intro j u hj
    match j, hj with
    | 0, hj => simp at hj; subst hj; exact hr.cell 0
    | 1, hj => simp at hj; subst hj; exact hr.cell 1
  · intro u hu; simp at hu; rcases hu with rfl | rfl <;> rfl
  · intro w' ho' hg
    refine h w' ?_ hg
    unfold OwnR
    rw [flat_append]
    simpa [flat, hk] using ho'
/-- What is looked up. -/
theorem MapR.look {w : World} {b n : Nat} {rs : List R} (h : MapR w b n rs) {k : Int} (hk : -9223372036854775808 ≤ k ∧ k ≤ 9223372036854775807) :
    (Instr.lookup 63 (.map (some b)) (.int .i64 k) false).run Try.prog w = .ok (.int .i64 ((lookR k rs).getD 0)) w := by
  obtain ⟨c, hrun, hat, _⟩ := World.ownsMap.lookup_int h lawI Try.underlying63 Try.underlying3 (zeroI w) (keyI hk)
  rw [atKey_mapD] at hat
  rw [hrun]
  cases e : lookR k rs with
  | none => rw [e] at hat; simp at hat; rw [← hat]; rfl
  | some v => rw [e] at hat; simp at hat; rw [← hat]; rfl
theorem MapR.look_ok {w : World} {b n : Nat} {rs : List R} (h : MapR w b n rs) {k : Int} (hk : -9223372036854775808 ≤ k ∧ k ≤ 9223372036854775807) :
    (Instr.lookup 63 (.map (some b)) (.int .i64 k) true).run Try.prog w = .ok (.tuple #[.int .i64 ((lookR k rs).getD 0), .bool (lookR k rs).isSome]) w := by
  obtain ⟨v, ps, hrun, hv⟩ := World.ownsMap.look_ok h lawI Try.underlying63 (zeroI w) (plainElem_int Try.underlying3 (wfI (x := 0) (by omega))) (keyI hk)
  obtain ⟨c, rfl, hat, _⟩ := plainElem_int_inv Try.underlying3 hv
  simp only [Prod.mk.injEq] at hat
  have hat := hat.1
  rw [atKey_mapD] at hat
  rw [hrun, has_mapD]
  cases e : lookR k rs with
  | none => rw [e] at hat; simp at hat; rw [← hat]; rfl
  | some v => rw [e] at hat; simp at hat; rw [← hat]; rfl

theorem IntsAt.cell {w : World} {a : Option Addr} {n c : Nat} {zs : List Int} (h : IntsAt w (.slice a n c) zs) (hn : zs.length = n) {k : Nat} (hk : k < n) : ∃ b off, a = some ⟨b, off, none⟩ ∧ w.cell? ⟨b, off + k, none⟩ = some (.int .i64 (zs.getD k 0)) := by
  obtain ⟨a', cap, hv, hc⟩ := h
  simp only [Value.slice.injEq] at hv
  obtain ⟨rfl, _, _⟩ := hv
  obtain ⟨b, off, ha, hc⟩ := hc (by omega)
  exact ⟨b, off, ha, hc k (by omega)⟩
theorem Own.shape' {w : World} {B : Nat} {v : Value} {zs : List Int} (h : Own w B v zs) : ∃ g c, v = .slice g zs.length c := by
  obtain ⟨a, cap, hv, _⟩ := h.ints
  exact ⟨a, cap, hv⟩
theorem starts_getD {rs : List R} {k : Nat} (h : k < rs.length) : (rs.map (·.1)).getD k 0 = (rs.getD k (0, 0)).1 := by
  simp [List.getD, List.getElem?_eq_getElem h]

set_option maxRecDepth 100000 in
set_option maxHeartbeats 1600000 in
theorem c_list (b n : Nat) (rs : List (Int × Int)) (w : World) (hM : MapR w b n rs) (hs : SortK rs) (hI : Bnd rs) (hlen : rs.length ≤ 900) :
    Calls Try.prog 47 #[.map (some b)] w fun e w' => ∃ v, e = .returned v ∧ OwnR w' w.heap.size v rs ∧ Below w.heap.size w w' := by
  obtain ⟨i0, hi, hz0, hz1, hz2⟩ := info_parts info_runs
  have hbl : b < w.heap.size := World.ownsMap.lt hM
  have HM := Lib.hid hM
  have HS := Lib.hid hs
  have HI := Lib.hid hI
  have HSZ : Hid (size (mapD Unit rs) = rs.length) := size_mapD rs
  clear hM hs hI
  generalize hn : rs.length = nn at *
  have HN := Lib.hid hn; clear hn
  go_enter Try.func47, Try.ntmps47
  go_wp2_with (first
    | (at_len; refine wpList_len_own _ rfl _ 63 rfl 3 3 Try.underlying63 _ b n _ rfl HM.out ?_; rw [HSZ.out])
    | (at_make; refine wpList_make_own _ rfl _ _ 23 rfl w.heap.size 33 i0 (.agg #[.int .i64 0, .int .i64 0]) 2 Try.underlying23 hi hz0 hz1 _ _ _ nn rfl rfl rfl (by rw [hz2]; omega) (by unfold maxLen; omega) (Nat.le_refl _) ?_; intro w1 hrow1 hg1; have hb1 := (Below.refl w.heap.size w).grown hg1 (Nat.le_refl _) (fun j hj => by cases hj); have HR1 := Lib.hid hrow1; have HB1 := Lib.hid hb1; clear hrow1 hg1 hb1)
    | (go_at_call 60; refine (c_starts b n rs w1 (HM.out.belowB HB1.out hbl) HS.out (by rw [HN.out]; omega)).mono ?_; rintro e w2 ⟨v2, rfl, ho2, hb2⟩; have HO2 := Lib.hid ho2; have HB2 := Lib.hid hb2; obtain ⟨ga, gc, hvs⟩ := ho2.shape'; rw [List.length_map, HN.out] at hvs; subst hvs; clear ho2 hb2)
    | go_in)
  have hbb : Below w.heap.size w w2 := bst HB1.out HB2.out HB1.out.size
  have hgw : w.heap.size < w1.heap.size := (World.ownsRow.lt HR1.out w.heap.size rfl).2
  go_loopw [3, 12] (fun v i wr => ∃ k : Nat, k ≤ nn ∧ i = .int .i64 k ∧ v = .slice (some ⟨w.heap.size, 0, none⟩) k nn ∧ OwnR wr w.heap.size (.slice (some ⟨w.heap.size, 0, none⟩) k nn) (rs.take k) ∧ Own wr w1.heap.size (.slice ga nn gc) (rs.map (·.1)) ∧ MapR wr b n rs ∧ Below w.heap.size w wr) (fun _ i _ => nn - (intOf i).toNat)
  case atStart => exact ⟨0, Nat.zero_le _, rfl, rfl, OwnR.below (rs := []) HR1.out HB2.out, HO2.out, HM.out.belowB hbb hbl, hbb⟩
  case round =>
    obtain ⟨k, hk, rfl, rfl, hrow, hst, hmr, hbr⟩ := hrel
    by_cases hlt : k < nn
    · obtain ⟨gb, go, rfl, q0⟩ := hst.ints.cell (by rw [List.length_map, HN.out]) hlt
      have hkl : k < rs.length := by rw [HN.out]; exact hlt
      rw [starts_getD hkl] at q0
      have hlk := lookR_mem HS.out (getD_mem hkl)
      have hz := HI.out.at k
      have hta := take_append_getD hkl
      generalize rs.getD k (0, 0) = z at q0 hlk hz hta
      obtain ⟨z1, z2⟩ := z
      obtain ⟨zb, _⟩ := hz
      simp only [] at q0 hlk zb
      have hrun := hmr.look zb
      rw [hlk] at hrun
      simp only [Option.getD_some] at hrun
      have HTA := Lib.hid hta
      have HTK : Hid ((rs.take k).length = k) := by unfold Hid; rw [List.length_take]; omega
      have HRW := Lib.hid hrow; have HST := Lib.hid hst; have HMR := Lib.hid hmr; have HBR := Lib.hid hbr
      have i1 : (k : Int) < (nn : Int) := by omega
      clear hlk hta hkl hrow hst hmr hbr zb
      go_wp2_with (first
        | (at_builtin; refine wl_appRfit (w := wr) rfl _ _ rfl w.heap.size w.heap.size k nn (rs.take k) z1 z2 rfl HRW.out HTK.out rfl (by omega) ?_; intro w3 hown3 hg3; go_frame)
        | go_in)
      rw [← HTA.out] at hown3
      have hb3 := (HBR.out.alloc HBR.out.size (.cells #[.int .i64 z1, .int .i64 z2] 33)).grown hg3 (by have := HBR.out.size; simp; omega) (fun j hj => by cases hj; exact Nat.le_refl _)
      have ho3 : Own w3 w1.heap.size (.slice (some ⟨gb, go, none⟩) nn gc) (rs.map (·.1)) := World.ownsRow.kept (World.ownsRow.alloc HST.out _) hg3 (Or.inr (fun e => by have := (World.ownsRow.lt HST.out _ e).1; omega))
      have hm3 := (HMR.out.below (below1 wr (.cells #[.int .i64 z1, .int .i64 z2] 33))).kept hg3 (by intro e; cases e; omega)
      go_roundw
      case rel => exact ⟨k + 1, by omega, by go_num, rfl, hown3, ho3, hm3, hb3⟩
      case measure => simp [intOf]; omega
    · obtain rfl : k = nn := by omega
      have HE : Hid (rs.take k = rs) := by unfold Hid; exact List.take_of_length_le (by rw [HN.out]; omega)
      rw [HE.out] at hrow
      go_wp2
      go_ret
      exact ⟨_, rfl, hrow, hbr⟩
end Go.Proofs.Ytdiejmebodpjeaa
