/- The reference's pages: marked run by run; read back as runs. -/
import Derived.Test.YtdiejmebodpjeaaMw7
namespace Go.Proofs.Ytdiejmebodpjeaa.Pr
/-- Pages as a list of bools. -/
def bl (f : Nat → Bool) : List Bool := (List.range 32).map f
theorem bl_length (f : Nat → Bool) : (bl f).length = 32 := by simp [bl]
theorem bl_getD (f : Nat → Bool) {p : Nat} (h : p < 32) : (bl f).getD p false = f p := by simp [bl, List.getD, h]
theorem bl_congr {f g : Nat → Bool} (h : ∀ p, p < 32 → f p = g p) : bl f = bl g := by
  unfold bl
  exact List.map_congr_left fun p hp => h p (by simpa using hp)
theorem bl_set (f : Nat → Bool) (i : Nat) (x : Bool) : (bl f).set i x = bl (fun p => if p = i then x else f p) := by
  apply List.ext_getElem?
  intro j
  unfold bl
  rw [List.getElem?_set]
  by_cases hj : j < 32
  · by_cases e : i = j
    · subst e; simp [hj]
    · have : ¬ j = i := fun h => e h.symm
      simp [hj, e, this]
  · have h1 : ((List.range 32).map fun p => if p = i then x else f p)[j]? = none := by simp; omega
    have h2 : ((List.range 32).map f)[j]? = none := by simp; omega
    rw [h1, h2]
    split
    · split
      · rename_i a b; simp at b; omega
      · rfl
    · rfl
/-- Is the page one of the runs'? -/
def pgB (rs : List R) (p : Nat) : Bool := rs.any fun x => decide (x.1 ≤ (p : Int)) && decide ((p : Int) < x.1 + x.2)
theorem pgB_iff (rs : List R) (p : Nat) : pgB rs p = true ↔ pg rs (p : Int) := by
  unfold pgB pg
  rw [List.any_eq_true]
  constructor
  · rintro ⟨x, hx, h⟩; simp at h; exact ⟨x, hx, h.1, h.2⟩
  · rintro ⟨x, hx, h1, h2⟩; exact ⟨x, hx, by simp [h1, h2]⟩
theorem pgB_snoc (rs : List R) (z : R) (p : Nat) : pgB (rs ++ [z]) p = (pgB rs p || (decide (z.1 ≤ (p : Int)) && decide ((p : Int) < z.1 + z.2))) := by
  unfold pgB; simp
end Go.Proofs.Ytdiejmebodpjeaa.Pr
namespace Go.Proofs.Ytdiejmebodpjeaa
open Go.RowKit Go.Maps Go.Sort Pr

theorem info_bool : (Try.prog.info? 4).map (fun i => (i.zero, i.size, i.bytes)) = some (some (.bool false), 1, 1) := by kernel_rfl
/-- A row of 32 bools that the call itself has made. -/
def OwnB (w : World) (B g : Nat) (bs : List Bool) : Prop := w.ownsRow B 4 1 (.slice (some ⟨g, 0, none⟩) 32 32) 32 (bs.map Value.bool)
theorem OwnB.cell {w : World} {B g : Nat} {f : Nat → Bool} (h : OwnB w B g (bl f)) {p : Nat} (hp : p < 32) : w.cell? ⟨g, p, none⟩ = some (.bool (f p)) ∧ w.frozen? ⟨g, p, none⟩ = false := by
  refine ⟨?_, World.ownsRow.frozenAt h _⟩
  rw [World.ownsRow.cellAt h _ (by omega)]
  simp [bl, hp]
theorem OwnB.stored {w : World} {B g : Nat} {f : Nat → Bool} (h : OwnB w B g (bl f)) (p : Nat) (x : Bool) : OwnB (w.setCell ⟨g, p, none⟩ (.bool x)) B g (bl fun q => if q = p then x else f q) ∧ w.grownBy (w.setCell ⟨g, p, none⟩ (.bool x)) (some g) := by
  obtain ⟨h1, h2⟩ := World.ownsRow.stored h p (.bool x)
  refine ⟨?_, h2⟩
  unfold OwnB
  rw [← bl_set, List.map_set]
  exact h1
theorem OwnB.below {w w' : World} {B g : Nat} {bs : List Bool} (h : OwnB w B g bs) (hb : Below w.heap.size w w') : OwnB w' B g bs := World.ownsRow.kept h (grown_of_below hb none) (Or.inr (by simp [Value.ownBlock]))
theorem OwnB.kept {w w' : World} {B g b : Nat} {bs : List Bool} (h : OwnB w B g bs) (hg : w.grownBy w' (some b)) (hne : g ≠ b) : OwnB w' B g bs := World.ownsRow.kept h hg (Or.inr (by simp [Value.ownBlock]; exact hne))
theorem OwnB.mono {w : World} {B B' g : Nat} {bs : List Bool} (h : OwnB w B g bs) (hB : B' ≤ B) : OwnB w B' g bs := by
  obtain ⟨h1, h2⟩ := h
  refine ⟨h1, ?_⟩
  rcases h2 with h2 | ⟨g, cap, cur, hv, hg, r⟩
  · exact .inl h2
  · exact .inr ⟨g, cap, cur, hv, by omega, r⟩
theorem made_bools : (madeCells (Value.bool false).cells (32 * 1)).toList = (bl fun _ => false).map Value.bool := by kernel_rfl

set_option maxRecDepth 100000 in
set_option maxHeartbeats 3200000 in
theorem s_l3Pages (v : Value) (rs : List (Int × Int)) (w : World) (hA : RunsAt w v rs) (hg : good 0 rs = true) :
    Calls Try.prog 53 #[v] w fun e w' => e = .returned (.slice (some ⟨w.heap.size, 0, none⟩) 32 32) ∧ OwnB w' w.heap.size w.heap.size (bl (pgB rs)) ∧ Below w.heap.size w w' := by
  obtain ⟨i0, hi, hz0, hz1, hz2⟩ := info_parts info_bool
  have hlen := good_len16 hg
  have HOK : Hid (∀ r ∈ rs, okR r = true) := fun r hr => (good_mem hg r hr).1
  clear hg
  obtain ⟨a, ca, rfl, hA⟩ := hA
  generalize hn : rs.length = n at *
  have HN := Lib.hid hn; clear hn
  have HA := Lib.hid hA; clear hA
  go_enter Try.func53, Try.ntmps53
  go_wp2_with (first
    | (at_make; refine wpList_make_full _ rfl _ _ 44 rfl w.heap.size 4 i0 (.bool false) 1 Try.underlying44 hi hz0 hz1 .i64 .i64 _ _ 32 rfl rfl rfl rfl (by rw [hz2]; omega) (by unfold maxLen; omega) (Nat.le_refl _) ?_; intro w1 hown1 hgr1; rw [made_bools] at hown1; have HO1 := Lib.hid hown1; have HB1 := Lib.hid ((Below.refl w.heap.size w).grown hgr1 (Nat.le_refl _) (fun k hk => by cases hk)); clear hown1 hgr1)
    | go_in)
  go_loopw [10] (fun i wr => ∃ k : Nat, k ≤ n ∧ i = .int .i64 k ∧ OwnB wr w.heap.size w.heap.size (bl (pgB (rs.take k))) ∧ Below w.heap.size w wr) (fun i _ => n - (intOf i).toNat)
  case atStart => exact ⟨0, Nat.zero_le _, rfl, HO1.out, HB1.out⟩
  case round =>
    obtain ⟨k, hk, rfl, hown, hbr⟩ := hrel
    by_cases hlt : k < n
    · obtain ⟨b, off, rfl, hcc⟩ := HA.out (by omega)
      obtain ⟨p0, p1⟩ := hcc k hlt
      have q0 := cellBelow' hbr p0
      have q1 := cellBelow' hbr p1
      clear p0 p1 hcc
      have hkl : k < rs.length := by rw [HN.out]; exact hlt
      have hta := take_append_getD hkl
      have hzo := (okR_iff _).1 (HOK.out _ (getD_mem hkl))
      generalize rs.getD k (0, 0) = z at q0 q1 hta hzo
      obtain ⟨z1, z2⟩ := z
      simp only [] at q0 q1 hzo
      obtain ⟨a1, rfl⟩ : ∃ a1 : Nat, z1 = a1 := ⟨z1.toNat, by omega⟩
      obtain ⟨a2, rfl⟩ : ∃ a2 : Nat, z2 = a2 := ⟨z2.toNat, by omega⟩
      have hz32 : a1 + a2 ≤ 32 := by omega
      have i1 : (k : Int) < (n : Int) := by omega
      have HTA := Lib.hid hta
      have HB2 := Lib.hid (bst hbr (below1 wr (.cells (cr (a1, a2)) 33)) hbr.size)
      have HO2 := Lib.hid (hown.below (below1 wr (.cells (cr (a1, a2)) 33)))
      have HR2 := Lib.hid (Row.new wr 33 (cr (a1, a2)))
      have hgw : w.heap.size < wr.heap.size := (World.ownsRow.lt hown w.heap.size rfl).2
      clear hta hbr hown hkl hzo
      go_wp2
      generalize wr.heap.size = gr at *
      go_loopw [6] (fun x wr => ∃ q : Nat, a1 ≤ q ∧ q ≤ a1 + a2 ∧ x = .int .i64 q ∧ OwnB wr w.heap.size w.heap.size (bl fun p => pgB (rs.take k) p || (decide (a1 ≤ p) && decide (p < q))) ∧ Row wr gr 33 (cr (a1, a2)) ∧ Below w.heap.size w wr) (fun x _ => a1 + a2 - (intOf x).toNat)
      case atStart => exact ⟨a1, Nat.le_refl _, by omega, rfl, by rw [bl_congr (g := pgB (rs.take k)) (fun p _ => by simp; omega)]; exact HO2.out, HR2.out, HB2.out⟩
      case round =>
        obtain ⟨q, hq1, hq2, rfl, hown, hrow, hbr⟩ := hrel
        have c0 : wr.cell? ⟨gr, 0, none⟩ = some (.int .i64 a1) := hrow.cell 0
        have c1 : wr.cell? ⟨gr, 0 + 1, none⟩ = some (.int .i64 a2) := hrow.cell 1
        by_cases hlt2 : q < a1 + a2
        · obtain ⟨d0, d1⟩ := hown.cell (p := q) (by omega)
          obtain ⟨s1, s2⟩ := hown.stored q true
          have j1 : (q : Int) < (a1 : Int) + (a2 : Int) := by omega
          have j2 : (q : Int) < 32 := by omega
          generalize (pgB (rs.take k) q || (decide (a1 ≤ q) && decide (q < q))) = ob at d0
          have S1 := Lib.hid s1
          have SB := Lib.hid (hbr.grown s2 hbr.size (fun j hj => by cases hj; exact Nat.le_refl _))
          have SR := Lib.hid (Row.grownBy hrow s2 (by intro e; cases e; omega))
          clear s1 s2 hown hrow hbr
          go_wp2
          go_roundw
          case rel => exact ⟨q + 1, by omega, by omega, by go_num, by rw [bl_congr (g := fun p => if p = q then true else pgB (rs.take k) p || (decide (a1 ≤ p) && decide (p < q))) (fun p _ => by by_cases e : p = q; (subst e; simp; omega); (have e1 : decide (p < q + 1) = decide (p < q) := by apply decide_eq_decide.2; omega); simp [e, e1])]; exact S1.out, SR.out, SB.out⟩
          case measure => simp [intOf]; omega
        · obtain rfl : q = a1 + a2 := by omega
          have j1 : ¬ ((a1 + a2 : Nat) : Int) < (a1 : Int) + (a2 : Int) := by omega
          have HOE : Hid (OwnB wr w.heap.size w.heap.size (bl (pgB (rs.take (k + 1))))) := by
            unfold Hid
            rw [HTA.out, bl_congr (g := fun p => pgB (rs.take k) p || (decide (a1 ≤ p) && decide (p < a1 + a2))) (fun p _ => by rw [pgB_snoc]; simp only []; congr 2 <;> (apply decide_eq_decide.2; omega))]
            exact hown
          clear hown
          go_wp2
          go_roundw
          case rel => exact ⟨k + 1, by omega, by go_num, HOE.out, hbr⟩
          case measure => simp [intOf]; omega
    · have HE : Hid (rs.take k = rs) := by unfold Hid; exact List.take_of_length_le (by rw [HN.out]; omega)
      rw [HE.out] at hown
      go_wp2
      go_ret
      exact ⟨rfl, hown, hbr⟩
end Go.Proofs.Ytdiejmebodpjeaa
