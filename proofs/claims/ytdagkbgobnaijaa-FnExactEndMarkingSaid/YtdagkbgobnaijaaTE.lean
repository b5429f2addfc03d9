/- laws.FnExactEndMarking: for every input the law answers true, and the input reads as it did. No condition. -/
import Derived.Test.YtdagkbgobnaijaaSA
import Derived.Test.YtdagkbgobnaijaaHs6s
import Derived.Test.YtdagkbgobnaijaaMf
import Derived.Test.YtdagkbgobnaijaaHk1
import Derived.Test.YtdagkbgobnaijaaLift
import Derived.Test.YtdagkbgobnaijaaHl3
import Derived.Deep.Matrix
import Derived.Deep.Grids
import Derived.Test.YtdagkbgobnaijaaGb
namespace Go.Proofs.Ytdagkbgobnaijaa
open Go.RowKit Ph

theorem small_good {h : H} (g : Ph.Good h) : Sml h := by obtain ⟨_, h1, h2, h3, h4⟩ := good_wt g; exact ⟨h1, h2, h3, h4⟩
/-- A copy of a marking under way. -/
structure OwnT (w x : World) (a b c d : Value) : Prop where
  p : Row x w.heap.size 34 (m4 a b c d)
  r : RowM x (w.heap.size + 1) nilS nilS nilS nilS
  l : Below w.heap.size w x
  z : w.heap.size + 2 ≤ x.heap.size
theorem OwnT.below {w x y : World} {a b c d : Value} (k : OwnT w x a b c d) (hb : Below x.heap.size x y) : OwnT w y a b c d := ⟨Row.below k.p hb, Row.below k.r hb, bst k.l hb k.l.size, Nat.le_trans k.z hb.size⟩
theorem OwnT.grown {w x y : World} {a b c d : Value} {g : Nat} (k : OwnT w x a b c d) (hg : x.grownBy y (some g)) (hl : w.heap.size + 2 ≤ g) : OwnT w y a b c d := ⟨Row.grownBy k.p hg (by simp; omega), Row.grownBy k.r hg (by simp; omega), k.l.grown hg k.l.size (fun _ e => by cases e; omega), Nat.le_trans k.z hg.size⟩
theorem appInts {w : World} {base g : Nat} {v x : Value} {cs : List Int} (ty : TypeId) (ho : Own w base v []) (hg : v.ownBlock = some g) (hx : IntsAt w x cs) (hm : cs.length ≤ 1048576) (hb : base ≤ w.heap.size) :
    ∃ v' w', (Builtin.append_ #[24, 24] ty #[v, x]).run Try.prog w = .ok v' w' ∧ Own w' base v' cs ∧ w.grownBy w' (some g) ∧ (v'.ownBlock = some g ∨ v'.ownBlock = some w.heap.size) := by
  obtain ⟨i0, hi, hz0, hz1, hz2⟩ := info_parts info_int
  obtain ⟨v', w', hr, h1, h2, h3⟩ := run_appOwn (P := Try.prog) w base 24 ty 3 i0 (.int .i64 0) 8 Try.underlying24 hi hz0 hz1 hz2 rfl v 0 [] ho x _ hx.src (by rw [List.length_map]; unfold maxLen; omega) (by rw [List.length_map]; omega) hb
  rw [hg] at h2 h3
  rw [List.nil_append, Nat.zero_add, List.length_map] at h1
  exact ⟨v', w', hr, h1, h2, h3⟩
set_option maxHeartbeats 3200000 in
set_option maxRecDepth 100000 in
theorem s_l7Own (a b c d : Value) (h : H) (cs : List Int) (w : World) (hA : HeapAt w a b c h) (hC : IntsAt w d cs) (hS : Sml h) (hm : cs.length ≤ 13) : Calls Try.prog 70 #[mv a b c d] w fun e w' => ∃ a' b' c' d', e = .returned (mv a' b' c' d') ∧ OwnM w' w.heap.size w'.heap.size a' b' c' d' h cs ∧ Below w.heap.size w w' := by
  have hb0 := (below1 w (.cells (m4 a b c d) 34)).alloc (by simp) (.cells (m4 nilS nilS nilS nilS) 34)
  have T0 := Lib.hid (OwnT.mk (a := a) (b := b) (c := c) (d := d) ((Row.new w 34 (m4 a b c d)).alloc (.cells (m4 nilS nilS nilS nilS) 34)) (Row.new1 w (.cells (m4 a b c d) 34) 34 (m4 nilS nilS nilS nilS)) hb0 (by simp))
  have HA := Lib.hid hA; have HC := Lib.hid hC; have HS := Lib.hid hS; have HM := Lib.hid hm
  clear hA hC hS hm hb0
  go_enter Try.func70, Try.ntmps70
  go_wp2_with fail
  generalize hx0 : ((w.alloc (.cells (m4 a b c d) 34)).alloc (.cells (m4 nilS nilS nilS nilS) 34)) = x1 at *
  have T1 : Hid (OwnT w x1.drew a b c d) := T0.out.below (below_drew (Below.refl _ _))
  clear T0 hx0
  refine wp_region_held_drew (S := (fun w' => w'.cell? ⟨w.heap.size, 0, none⟩ = some a ∧ w'.cell? ⟨w.heap.size, 1, none⟩ = some b ∧ w'.cell? ⟨w.heap.size, 2, none⟩ = some c ∧ w'.cell? ⟨w.heap.size, 3, none⟩ = some d)) (by kernel_rfl) (⟨T1.out.p.cell 0, T1.out.p.cell 1, T1.out.p.cell 2, T1.out.p.cell 3⟩) (fun hHeld => ?_)
  generalize x1.drew = x0 at *
  refine wpAnyH_take (i := 0) (v := ?va0x1) rfl (by kernel_rfl) (by kernel_rfl) (by kernel_rfl) (fun _ _ _ h => h) (Or.inl ⟨by rfl, ?hy0x1⟩) (by assumption) ?rest0x1
  case hy0x1 => (intro w hSw; (try dsimp only at hSw); go_simp; try with_reducible rfl)
  (try simp only [Act.put, List.getElem_toArray, List.getElem_cons_zero, List.setIfInBounds_toArray, List.set_cons_zero, List.set_cons_succ])
  refine wpAnyH_take (i := 1) (v := ?va1x2) rfl (by kernel_rfl) (by kernel_rfl) (by kernel_rfl) (fun _ _ _ h => h) (Or.inl ⟨by rfl, ?hy1x2⟩) (by assumption) ?rest1x2
  case hy1x2 => (intro w hSw; (try dsimp only at hSw); go_simp; try with_reducible rfl)
  (try simp only [Act.put, List.getElem_toArray, List.getElem_cons_zero, List.getElem_cons_succ, List.setIfInBounds_toArray, List.set_cons_zero, List.set_cons_succ])
  refine wpAnyH_take (i := 4) (v := ?va4x3) rfl (by kernel_rfl) (by kernel_rfl) (by kernel_rfl) (fun _ _ _ h => h) (Or.inl ⟨by rfl, ?hy4x3⟩) (by assumption) ?rest4x3
  case hy4x3 => (intro w hSw; (try dsimp only at hSw); go_simp; try with_reducible rfl)
  (try simp only [Act.put, List.getElem_toArray, List.getElem_cons_zero, List.getElem_cons_succ, List.setIfInBounds_toArray, List.set_cons_zero, List.set_cons_succ])
  refine wpAnyH_take (i := 5) (v := ?va5x4) rfl (by kernel_rfl) (by kernel_rfl) (by kernel_rfl) (fun _ _ _ h => h) (Or.inl ⟨by rfl, ?hy5x4⟩) (by assumption) ?rest5x4
  case hy5x4 => (intro w hSw; (try dsimp only at hSw); go_simp; try with_reducible rfl)
  (try simp only [Act.put, List.getElem_toArray, List.getElem_cons_zero, List.getElem_cons_succ, List.setIfInBounds_toArray, List.set_cons_zero, List.set_cons_succ])
  have ZL : Hid (w.heap.size + 2 ≤ x0.heap.size) := T1.out.z
  refine wpAnyH_ready (rs := [2, 3]) (by kernel_rfl) (by simp) ?_
  refine AllReadyH.cons rfl (fun K hK => ?_) (AllReadyH.cons rfl (fun K hK => ?_) AllReadyH.nil)
  · skip
    go_simp
    refine (s_l5OwnS a b c h _ (HA.out.below T1.out.l) HS.out).mono ?_
    rintro e w2 ⟨a2, b2, c2, rfl, ho2, hb2⟩
    have ba := below1 w2 (.cells #[] 3)
    have T2 := Lib.hid ((T1.out.below hb2).below ba); have O2 := Lib.hid (ho2.below ba); have E2 := Lib.hid (own_nil0 w2)
    have T1b := Lib.hid (T1.out.below hb2)
    have SZ2 : Hid (x0.heap.size ≤ w2.heap.size) := hb2.size
    clear ho2 ba hb2
    refine hK.out _ _ (⟨T1b.out.p.cell 0, T1b.out.p.cell 1, T1b.out.p.cell 2, T1b.out.p.cell 3⟩) (fun hHeld => ?_)
    clear hK K
    (try simp only [Act.put, List.getElem_toArray, List.getElem_cons_zero, List.getElem_cons_succ, List.setIfInBounds_toArray, List.set_cons_zero, List.set_cons_succ])
    refine wpAnyH_ready (rs := [3]) (by kernel_rfl) (by simp) ?_
    refine AllReadyH.cons rfl (fun K hK => ?_) AllReadyH.nil
    go_simp
    refine hK.out _ _ (⟨T2.out.p.cell 0, T2.out.p.cell 1, T2.out.p.cell 2, T2.out.p.cell 3⟩) (fun hHeld => ?_)
    clear hK K
    (try simp only [Act.put, List.getElem_toArray, List.getElem_cons_zero, List.getElem_cons_succ, List.setIfInBounds_toArray, List.set_cons_zero, List.set_cons_succ])
    obtain ⟨v3, w3, hrun, ho3, hg3, _⟩ := appInts (g := w2.heap.size) 24 E2.out rfl (HC.out.below T2.out.l) (by have := HM.out; omega) (by simp)
    have T3 := Lib.hid (T2.out.grown hg3 (by have := ZL.out; have := SZ2.out; omega))
    have M3 := Lib.hid (OwnM.hc (O2.out.chg (Chg.of_grown (lo := w2.heap.size) (hi := w2.heap.size + 1) hg3 (fun g e => by cases e; omega)) (.inl (Nat.le_refl _))) (OwnC.ofOwn ho3 (by have := hg3.size; simp at this; omega)) SZ2.out (by have := hg3.size; simp at this; omega))
    clear ho3 hg3 T2 O2 E2
    refine wpAnyH_ready (rs := [6]) (by kernel_rfl) (by simp) ?_
    refine AllReadyH.cons rfl (fun K hK => ?_) AllReadyH.nil
    rw [if_pos (by rfl)]
    refine op_app _ _ _ rfl rfl rfl hrun ?_
    refine hK.out _ _ (⟨T3.out.p.cell 0, T3.out.p.cell 1, T3.out.p.cell 2, T3.out.p.cell 3⟩) (fun hHeld => ?_)
    clear hK K hrun
    (try simp only [Act.put, List.getElem_toArray, List.getElem_cons_zero, List.getElem_cons_succ, List.setIfInBounds_toArray, List.set_cons_zero, List.set_cons_succ])
    obtain ⟨⟨pa, qa, e1⟩, ⟨pb, qb, e2⟩, ⟨pc, qc, e3⟩, ⟨pd, qd, e4⟩⟩ := M3.out.shapes
    subst e1 e2 e3 e4
    generalize h.f.length = nf at *
    generalize h.l.length = nl at *
    generalize h.r.length = nr at *
    generalize cs.length = nc at *
    refine wpAnyH_take (i := 7) (v := ?va7x5) rfl (by kernel_rfl) (by kernel_rfl) (by kernel_rfl) (fun _ _ _ h => h) (Or.inl ⟨by rfl, ?hy7x5⟩) (by assumption) ?rest7x5
    case hy7x5 => (intro w hSw; (try dsimp only at hSw); go_simp; try with_reducible rfl)
    (try simp only [Act.put, List.getElem_toArray, List.getElem_cons_zero, List.getElem_cons_succ, List.setIfInBounds_toArray, List.set_cons_zero, List.set_cons_succ])
    have P5 := Lib.hid (show Row _ w.heap.size 34 (m4 a b c d) from Row.putOther T3.out.p (m4 (.slice pa nf qa) (.slice pb nl qb) (.slice pc nr qc) (.slice pd nc qd)) (by omega : w.heap.size ≠ w.heap.size + 1))
    refine wpAnyH_ready (rs := [8]) (by kernel_rfl) (by simp) ?_
    refine AllReadyH.cons rfl (fun K hK => ?_) AllReadyH.nil
    refine wp_store_row 34 _ _ rfl (w.heap.size + 1) (m4 (.slice pa nf qa) (.slice pb nl qb) (.slice pc nr qc) (.slice pd nc qd)) rfl rfl 34 _ T3.out.r info_marking rfl (by simp [Value.oneCell']) ?_
    refine hK.out _ _ ⟨P5.out.cell 0, P5.out.cell 1, P5.out.cell 2, P5.out.cell 3⟩ (fun hHeld => ?_)
    clear hK K
    (try simp only [Act.put, List.getElem_toArray, List.getElem_cons_zero, List.getElem_cons_succ])
    refine wpAnyH_done (by kernel_rfl) ?_ _
    clear hHeld
    go_wp2_with fail
    refine bodyPost_ret (res_row Try.results70 (Row.put T3.out.r (m4 (.slice pa nf qa) (.slice pb nl qb) (.slice pc nr qc) (.slice pd nc qd))) rfl Try.underlying34 rfl info_marking) rfl ⟨_, _, _, _, rfl, (M3.out.whole (w.heap.size + 1) (by have := ZL.out; omega) _).wide (by have := ZL.out; omega) (by rw [size_setRow]; exact Nat.le_refl _), below_setRow T3.out.l (by omega) _⟩
  · skip
    have ba := below1 x0 (.cells #[] 3)
    have T2 := Lib.hid (T1.out.below ba); have E1 := Lib.hid (own_nil0 x0)
    clear ba
    go_simp
    refine hK.out _ _ (⟨T2.out.p.cell 0, T2.out.p.cell 1, T2.out.p.cell 2, T2.out.p.cell 3⟩) (fun hHeld => ?_)
    clear hK K
    (try simp only [Act.put, List.getElem_toArray, List.getElem_cons_zero, List.getElem_cons_succ, List.setIfInBounds_toArray, List.set_cons_zero, List.set_cons_succ])
    refine wpAnyH_ready (rs := [2]) (by kernel_rfl) (by simp) ?_
    refine AllReadyH.cons rfl (fun K hK => ?_) AllReadyH.nil
    go_simp
    refine (s_l5OwnS a b c h _ (HA.out.below T2.out.l) HS.out).mono ?_
    rintro e w2 ⟨a2, b2, c2, rfl, ho2, hb2⟩
    have T2b := Lib.hid (T2.out.below hb2); have O2 := Lib.hid ho2; have E2 := Lib.hid (Own.below E1.out hb2)
    have SZ2 : Hid (x0.heap.size + 1 ≤ w2.heap.size) := (by { unfold Hid; have := hb2.size; rw [World.size_alloc] at this; exact this })
    clear ho2 hb2 E1
    refine hK.out _ _ (⟨T2b.out.p.cell 0, T2b.out.p.cell 1, T2b.out.p.cell 2, T2b.out.p.cell 3⟩) (fun hHeld => ?_)
    clear hK K
    (try simp only [Act.put, List.getElem_toArray, List.getElem_cons_zero, List.getElem_cons_succ, List.setIfInBounds_toArray, List.set_cons_zero, List.set_cons_succ])
    obtain ⟨v3, w3, hrun, ho3, hg3, h3⟩ := appInts (g := x0.heap.size) 24 E2.out rfl (HC.out.below T2b.out.l) (by have := HM.out; omega) (by have := SZ2.out; omega)
    have T3 := Lib.hid (T2b.out.grown hg3 (by have := ZL.out; omega))
    have M3 : Hid (OwnM w3 x0.heap.size w3.heap.size a2 b2 c2 v3 h cs) := (by {
      unfold Hid
      have hsz := hg3.size
      have hO := O2.out.chg (Chg.of_grown (lo := x0.heap.size) (hi := x0.heap.size + 1) hg3 (fun g e => by cases e; omega)) (.inr (by rw [World.size_alloc]; exact Nat.le_refl _))
      rw [World.size_alloc] at hO
      have := SZ2.out
      rcases h3 with h3 | h3
      · exact (OwnM.ch hO (OwnC.of ho3 (fun g hg => by rw [hg] at h3; cases h3; omega) (by omega)) (by omega) (by omega)).wide (Nat.le_refl _) (by omega)
      · exact (OwnM.hc hO (OwnC.ofOwn (owns_mono ho3 (fun g hg => by rw [hg] at h3; cases h3; exact Nat.le_refl _)) hsz) (by omega) hsz).wide (by omega) (Nat.le_refl _) })
    clear ho3 hg3 T2 T2b O2 E2 h3
    refine wpAnyH_ready (rs := [6]) (by kernel_rfl) (by simp) ?_
    refine AllReadyH.cons rfl (fun K hK => ?_) AllReadyH.nil
    rw [if_pos (by rfl)]
    refine op_app _ _ _ rfl rfl rfl hrun ?_
    refine hK.out _ _ (⟨T3.out.p.cell 0, T3.out.p.cell 1, T3.out.p.cell 2, T3.out.p.cell 3⟩) (fun hHeld => ?_)
    clear hK K hrun
    (try simp only [Act.put, List.getElem_toArray, List.getElem_cons_zero, List.getElem_cons_succ, List.setIfInBounds_toArray, List.set_cons_zero, List.set_cons_succ])
    obtain ⟨⟨pa, qa, e1⟩, ⟨pb, qb, e2⟩, ⟨pc, qc, e3⟩, ⟨pd, qd, e4⟩⟩ := M3.out.shapes
    subst e1 e2 e3 e4
    generalize h.f.length = nf at *
    generalize h.l.length = nl at *
    generalize h.r.length = nr at *
    generalize cs.length = nc at *
    refine wpAnyH_take (i := 7) (v := ?va7x6) rfl (by kernel_rfl) (by kernel_rfl) (by kernel_rfl) (fun _ _ _ h => h) (Or.inl ⟨by rfl, ?hy7x6⟩) (by assumption) ?rest7x6
    case hy7x6 => (intro w hSw; (try dsimp only at hSw); go_simp; try with_reducible rfl)
    (try simp only [Act.put, List.getElem_toArray, List.getElem_cons_zero, List.getElem_cons_succ, List.setIfInBounds_toArray, List.set_cons_zero, List.set_cons_succ])
    have P5 := Lib.hid (show Row _ w.heap.size 34 (m4 a b c d) from Row.putOther T3.out.p (m4 (.slice pa nf qa) (.slice pb nl qb) (.slice pc nr qc) (.slice pd nc qd)) (by omega : w.heap.size ≠ w.heap.size + 1))
    refine wpAnyH_ready (rs := [8]) (by kernel_rfl) (by simp) ?_
    refine AllReadyH.cons rfl (fun K hK => ?_) AllReadyH.nil
    refine wp_store_row 34 _ _ rfl (w.heap.size + 1) (m4 (.slice pa nf qa) (.slice pb nl qb) (.slice pc nr qc) (.slice pd nc qd)) rfl rfl 34 _ T3.out.r info_marking rfl (by simp [Value.oneCell']) ?_
    refine hK.out _ _ ⟨P5.out.cell 0, P5.out.cell 1, P5.out.cell 2, P5.out.cell 3⟩ (fun hHeld => ?_)
    clear hK K
    (try simp only [Act.put, List.getElem_toArray, List.getElem_cons_zero, List.getElem_cons_succ])
    refine wpAnyH_done (by kernel_rfl) ?_ _
    clear hHeld
    go_wp2_with fail
    refine bodyPost_ret (res_row Try.results70 (Row.put T3.out.r (m4 (.slice pa nf qa) (.slice pb nl qb) (.slice pc nr qc) (.slice pd nc qd))) rfl Try.underlying34 rfl info_marking) rfl ⟨_, _, _, _, rfl, (M3.out.whole (w.heap.size + 1) (by have := ZL.out; omega) _).wide (by have := ZL.out; omega) (by rw [size_setRow]; exact Nat.le_refl _), below_setRow T3.out.l (by omega) _⟩
end Go.Proofs.Ytdagkbgobnaijaa
namespace Go.Proofs.Ytdagkbgobnaijaa
open Go.RowKit Ph

theorem OwnC.blk {w : World} {lo hi : Nat} {d : Value} {cs : List Int} (k : OwnC w lo hi d cs) {g : Nat} (hg : d.ownBlock = some g) : lo ≤ g ∧ g < hi := by
  obtain ⟨us, k⟩ := k
  have := Fam.blk k (k := 2) (g := g) (by simp) hg
  exact ⟨this.1, this.2.1⟩
/-- A marking that is the call's own, its colours' block alone written. -/
theorem OwnM.setC {w w' : World} {lo hi : Nat} {a b c d : Value} {h : H} {cs cs' : List Int} (k : OwnM w lo hi a b c d h cs) (hg : w.grownBy w' d.ownBlock) (ho : ∀ B, Own w B d cs → Own w' B d cs') : OwnM w' lo hi a b c d h cs' ∧ Chg lo hi w w' := by
  obtain ⟨l1, h1, l2, h2, k1, k2, q1, q2, q3, q4, q5⟩ := k
  obtain ⟨r1, r2⟩ := OwnC.set k2 (ho _ k2.own) hg
  exact ⟨⟨l1, h1, l2, h2, k1.chg r2 (by omega), r1, q1, q2, q3, q4, q5⟩, r2.wide q3 q4⟩
set_option maxHeartbeats 3200000 in
set_option maxRecDepth 100000 in
theorem s_l6ScanM (lo hi : Nat) (a b c d : Value) (h : H) (cs : List Int) (k : Nat) (w : World) (hO : OwnM w lo hi a b c d h cs) (hk : k < cs.length) (hkf : k < h.f.length) (hr : ∀ z ∈ h.f.getD k [], inR cs.length z) (hl : (h.f.getD k []).length ≤ 3) :
    Calls Try.prog 99 #[hv a b c, d, .int .i64 k] w fun e w' => e = .returned (.tuple #[]) ∧ OwnM w' lo hi a b c d h (scan cs (h.f.getD k []) k) ∧ Chg lo hi w w' := by
  obtain ⟨l1, h1, l2, h2, k1, k2, q1, q2, q3, q4, q5⟩ := hO
  obtain ⟨us, hf⟩ := k1
  have ho : Own w l2 d cs := k2.own
  have HBK := Lib.hid (fun g => OwnC.blk k2 (g := g))
  have HK2 := Lib.hid k2
  have HQ := Lib.hid (And.intro q1 (And.intro q2 (And.intro q3 (And.intro q4 q5))))
  clear k2
  rcases ho.shape' with ⟨_, h0'⟩ | ⟨g, cap, rfl⟩
  · rw [h0'] at hk; simp at hk
  rcases hf.shape with ⟨_, h0'⟩ | ⟨fb, fc, rfl⟩
  · rw [h0'] at hkf; simp at hkf
  have HFM : Hid (∀ w', w.grownBy w' (some g) → FamH w' l1 h1 (.slice (some ⟨fb, 0, none⟩) h.f.length fc) b c us h) := fun w' hg => Fam.chg hf (Chg.of_grown (lo := l2) (hi := h2) hg fun g' e => by cases e; exact HBK.out g rfl) (by omega)
  obtain ⟨ua, uc, hus⟩ := (hf.row hkf).ints.shape
  have HUS := Lib.hid hus
  have hgl : g < w.heap.size := (owns_lt ho rfl).2
  obtain ⟨s1, s2, s3, s4⟩ := ho.store1 rfl hk 2
  have hba := below1 (w.setCell ⟨g, k, none⟩ (.int .i64 2)) (.cells (c3 (.slice (some ⟨fb, 0, none⟩) h.f.length fc) b c) 32)
  have SS1 := Lib.hid (s1.below hba)
  have GG1 : Hid (w.grownBy ((w.setCell ⟨g, k, none⟩ (.int .i64 2)).alloc (.cells (c3 (.slice (some ⟨fb, 0, none⟩) h.f.length fc) b c) 32)) (some g)) := grownBy_trans s2 ⟨rfl, rfl, rfl, by simp, fun i hi _ => hba.block i hi⟩
  have eu := ((HFM.out _ GG1.out).cell rfl hkf).1
  rw [HUS.out] at eu
  have HR := Lib.hid hr
  have HSC : Hid (scan cs (h.f.getD k []) k = shades (cs.set k 2) (h.f.getD k [])) := rfl
  have HLL : Hid ((cs.set k 2).length = cs.length) := List.length_set
  have HZ : Hid (∀ w', w.grownBy w' (some g) → IntsAt w' (.slice ua (h.f.getD k []).length uc) (h.f.getD k [])) := fun w' hg => by rw [← HUS.out]; exact ((HFM.out w' hg).row hkf).ints
  have HDONE : Hid (∀ w', w.grownBy w' (some g) → Own w' l2 (.slice (some ⟨g, 0, none⟩) cs.length cap) (shades (cs.set k 2) (h.f.getD k [])) → OwnM w' lo hi (.slice (some ⟨fb, 0, none⟩) h.f.length fc) b c (.slice (some ⟨g, 0, none⟩) cs.length cap) h (scan cs (h.f.getD k []) k) ∧ Chg lo hi w w') := fun w' hg ho' => by
    obtain ⟨r1, r2⟩ := OwnC.set HK2.out ho' hg
    exact ⟨⟨l1, h1, l2, h2, ⟨us, HFM.out w' hg⟩, by rw [HSC.out]; exact r1, HQ.out⟩, r2.wide q3 q4⟩
  clear ho hr hf hba s1 s2 HFM HK2 q1 q2 q3 q4 q5 hus HSC
  generalize scan cs (h.f.getD k []) k = out at *
  generalize h.f.getD k [] = row at *
  generalize hm : row.length = m at *
  have HM := Lib.hid hm; clear hm
  generalize cs.set k 2 = cs1 at *
  generalize cs.length = n at *
  generalize h.f.length = fl at *
  have i1 : (k : Int) < (n : Int) := by omega
  have i2 : (k : Int) < (fl : Int) := by omega
  have i0 : (0 : Int) ≤ (k : Int) := by omega
  go_enter Try.func99, Try.ntmps99
  go_wp2_with fail
  generalize ((w.setCell ⟨g, k, none⟩ (.int .i64 2)).alloc (.cells (c3 (.slice (some ⟨fb, 0, none⟩) fl fc) b c) 32)) = w1 at *
  clear eu s3 s4
  go_loopw [17] (fun i wr => ∃ j : Nat, j ≤ m ∧ i = .int .i64 j ∧ Hid (Own wr l2 (.slice (some ⟨g, 0, none⟩) n cap) (shades cs1 (row.take j))) ∧ Hid (w1.grownBy wr (some g))) (fun i _ => m - (intOf i).toNat)
  case atStart => exact ⟨0, Nat.zero_le _, rfl, by rw [List.take_zero, shades_nil]; exact SS1, World.grownBy.refl _ _⟩
  case round =>
    obtain ⟨j, hj, rfl, how, hgr⟩ := hrel
    by_cases hlt : j < m
    · obtain ⟨zb, zo, rfl, hcz⟩ := (HZ.out wr (grownBy_trans GG1.out hgr.out)).at' (by omega)
      have q := hcz j hlt
      have hjl : j < row.length := by rw [HM.out]; exact hlt
      have hin := HR.out (row.getD j 0) (by rw [List.getD, List.getElem?_eq_getElem hjl]; exact List.getElem_mem hjl)
      have HS := Lib.hid (shades_take_succ (cs := cs1) hjl)
      have HIN : Hid (row.getD j 0 < ((shades cs1 (row.take j)).length : Int)) := by unfold Hid; rw [shades_len, HLL.out]; rcases hin with h | h <;> omega
      have j1 : (j : Int) < (m : Int) := by omega
      clear hcz hjl hin
      generalize row.getD j 0 = z at *
      go_wp2_with fail
      refine (s_l6Shade _ _ z _ wr how.out HIN.out).mono ?_
      rintro e w6 ⟨rfl, ho6, hg6⟩
      have O6 := Lib.hid ho6
      have G6 : Hid (w1.grownBy w6 (some g)) := grownBy_trans hgr.out hg6
      clear ho6 hg6 q
      go_wp2_with fail
      go_roundw
      case rel => exact ⟨j + 1, by omega, by go_num, by rw [HS.out]; exact O6, G6⟩
      case measure => simp [intOf]; omega
    · obtain rfl : j = m := by omega
      have HE : Hid (row.take j = row) := List.take_of_length_le (by rw [HM.out]; exact Nat.le_refl _)
      go_wp2_with fail
      go_end0
      exact ⟨rfl, HDONE.out _ (grownBy_trans GG1.out hgr.out) (by rw [← HE.out]; exact how.out)⟩
end Go.Proofs.Ytdagkbgobnaijaa
namespace Go.Proofs.Ytdagkbgobnaijaa.Ph
theorem tmodN {z : Int} (h : 0 ≤ z) (q : Nat) : z.tmod (q : Int) = ((z.toNat % q : Nat) : Int) := by
  rw [Int.tmod_eq_emod_of_nonneg h, Int.natCast_emod, Int.toNat_of_nonneg h]
theorem grey_at {cs : List Int} (hn : ofC cs 1 ≠ []) (z : Int) : (ofC cs 1).getD (z.toNat % (ofC cs 1).length) 0 = (greyN cs z : Int) ∧ z.toNat % (ofC cs 1).length < (ofC cs 1).length := by
  have h0 : 0 < (ofC cs 1).length := List.length_pos_iff.2 hn
  obtain ⟨k, hk, _, _⟩ := greyAt (cs := cs) (z.toNat % (ofC cs 1).length) (Nat.mod_lt _ h0)
  refine ⟨?_, Nat.mod_lt _ h0⟩
  unfold greyN
  rw [hk]; rfl
end Go.Proofs.Ytdagkbgobnaijaa.Ph
namespace Go.Proofs.Ytdagkbgobnaijaa
open Go.RowKit Ph

theorem OwnM.readC {w : World} {lo hi : Nat} {a b c d : Value} {h : H} {cs : List Int} (k : OwnM w lo hi a b c d h cs) : IntsAt w d cs := k.cols
set_option maxHeartbeats 6400000 in
set_option maxRecDepth 100000 in
theorem s_l7Scan (lo hi : Nat) (a b c d : Value) (h : H) (cs : List Int) (z : Int) (w : World) (hO : OwnM w lo hi a b c d h cs) (hB : bothB h cs = true) (h0 : 0 ≤ z) (hs : hi ≤ w.heap.size) :
    Calls Try.prog 79 #[mv a b c d, .int .i64 z] w fun e w' => e = .returned (.bool (!(ofC cs 1).isEmpty)) ∧ OwnM w' lo hi a b c d h (scanAt h cs z) ∧ Chg lo hi w w' := by
  have hb0 := below1 w (.cells (m4 a b c d) 34)
  have O0 := Lib.hid (hO.below hb0)
  have C0 := Lib.hid (Chg.of_below (lo := lo) (hi := hi) hb0)
  have R0 := Lib.hid (Row.new w 34 (m4 a b c d))
  obtain ⟨hG, hl, hc⟩ := bothB_iff.1 hB
  have hcl : cs.length ≤ 12 := by rw [hl]; exact hG.n
  have HS := Lib.hid hs; have HG := Lib.hid hG; have HL := Lib.hid hl; have HCL := Lib.hid hcl
  have HN := Lib.hid (scanAt_no (h := h) (cs := cs) (a := z)); have HY := Lib.hid (scanAt_yes (h := h) (cs := cs) (a := z))
  have HGA := Lib.hid (grey_at (cs := cs)); have HGI := Lib.hid (greyN_is (cs := cs))
  have HT := Lib.hid (tmodN h0)
  clear hO hB hb0 hG hl hc hs hcl
  generalize hbb : (!(ofC cs 1).isEmpty) = bb at *
  generalize scanAt h cs z = out at *
  have HBB := Lib.hid hbb; clear hbb
  go_enter Try.func79, Try.ntmps79
  go_wp2_with fail
  refine (s_l6Of d cs 1 _ O0.out.cols HCL.out).mono ?_
  rintro e w1 ⟨v1, rfl, ho1, hb1⟩
  have O1 := Lib.hid (O0.out.below hb1)
  have C1 := Lib.hid (C0.out.trans (Chg.of_below hb1))
  have R1 := Lib.hid (Row.below R0.out hb1)
  obtain ⟨ta, tc, rfl⟩ := ho1.ints.shape
  have T1 := Lib.hid ho1.ints
  clear ho1 hb1
  by_cases hq : ofC cs 1 = []
  · have HE := Lib.hid (HN.out hq)
    have HF : Hid (false = bb) := by unfold Hid; rw [← HBB.out, hq]; rfl
    have hql : (ofC cs 1).length = 0 := by rw [hq]; rfl
    clear hq
    generalize (ofC cs 1).length = q at *
    subst hql
    go_wp2_with fail
    go_ret
    exact ⟨r_b HF.out, by rw [HE.out]; exact O1.out, C1.out⟩
  have HE := Lib.hid (HY.out hq)
  obtain ⟨g1, g2⟩ := HGA.out hq z
  obtain ⟨k1, k2⟩ := HGI.out hq z
  have HF : Hid (true = bb) := by
    unfold Hid; rw [← HBB.out]
    cases hx : ofC cs 1 with
    | nil => exact absurd hx hq
    | cons _ _ => rfl
  have hm := HT.out (ofC cs 1).length
  have hql : 0 < (ofC cs 1).length := List.length_pos_iff.2 hq
  clear HN HY HGA HGI HT hq HBB
  generalize greyN cs z = k at *
  generalize z.toNat % (ofC cs 1).length = r at *
  generalize hts : ofC cs 1 = ts at *
  clear hts
  generalize hqq : ts.length = q at *
  have HQ := Lib.hid hqq; clear hqq
  obtain ⟨tb, to, rfl, hct⟩ := T1.out.at' hql
  have qt := hct r g2
  rw [g1] at qt
  have HK := Lib.hid k1
  have HKF : Hid (k < h.f.length) := by unfold Hid; rw [← HL.out]; exact k1
  have HIN : Hid (∀ z ∈ h.f.getD k [], inR cs.length z) := fun z hz => by rw [HL.out]; exact (HG.out.field hz).imp id (fun h => ⟨h.1, h.2.1⟩)
  have HRL : Hid ((h.f.getD k []).length ≤ 3) := (HG.out.row k HKF.out).1
  have hq1 : ((q : Int) == 0) = false := by simp; omega
  have hqn : ¬ q = 0 := by omega
  have r0 : (0 : Int) ≤ (r : Int) := by omega
  have r1 : (r : Int) < (q : Int) := by omega
  clear hct g1 k1 k2
  go_wp2_with fail
  have OD := Lib.hid (O1.out.below (below_drew (Below.refl w1.heap.size w1)))
  have CD := Lib.hid (C1.out.trans (Chg.of_below (below_drew (Below.refl w1.heap.size w1))))
  have RD : Hid (Row w1.drew w.heap.size 34 (m4 a b c d)) := R1.out
  have dt : w1.drew.cell? ⟨tb, to + r, none⟩ = some (.int .i64 (k : Int)) := qt
  clear O1 C1 R1 qt
  refine wp_region_held_drew (S := (fun w' => w'.cell? ⟨w.heap.size, 0, none⟩ = some a ∧ w'.cell? ⟨w.heap.size, 1, none⟩ = some b ∧ w'.cell? ⟨w.heap.size, 2, none⟩ = some c ∧ w'.cell? ⟨w.heap.size, 3, none⟩ = some d)) (by kernel_rfl) (⟨RD.out.cell 0, RD.out.cell 1, RD.out.cell 2, RD.out.cell 3⟩) (fun hHeld => ?_)
  generalize w1.drew = x0 at *
  refine wpAnyH_take (i := 0) (v := ?va0x1) rfl (by kernel_rfl) (by kernel_rfl) (by kernel_rfl) (fun _ _ _ h => h) (Or.inl ⟨by rfl, ?hy0x1⟩) (by assumption) ?rest0x1
  case hy0x1 => (intro w hSw; (try dsimp only at hSw); go_simp; try with_reducible rfl)
  (try simp only [Act.put, List.getElem_toArray, List.getElem_cons_zero, List.setIfInBounds_toArray, List.set_cons_zero, List.set_cons_succ])
  refine wpAnyH_take (i := 1) (v := ?va1x2) rfl (by kernel_rfl) (by kernel_rfl) (by kernel_rfl) (fun _ _ _ h => h) (Or.inl ⟨by rfl, ?hy1x2⟩) (by assumption) ?rest1x2
  case hy1x2 => (intro w hSw; (try dsimp only at hSw); go_simp; try with_reducible rfl)
  (try simp only [Act.put, List.getElem_toArray, List.getElem_cons_zero, List.getElem_cons_succ, List.setIfInBounds_toArray, List.set_cons_zero, List.set_cons_succ])
  refine wpAnyH_take (i := 2) (v := ?va2x3) rfl (by kernel_rfl) (by kernel_rfl) (by kernel_rfl) (fun _ _ _ h => h) (Or.inl ⟨by rfl, ?hy2x3⟩) (by assumption) ?rest2x3
  case hy2x3 => (intro w hSw; (try dsimp only at hSw); go_simp; try with_reducible rfl)
  (try simp only [Act.put, List.getElem_toArray, List.getElem_cons_zero, List.getElem_cons_succ, List.setIfInBounds_toArray, List.set_cons_zero, List.set_cons_succ])
  refine wpAnyH_take (i := 3) (v := ?va3x4) rfl (by kernel_rfl) (by kernel_rfl) (by kernel_rfl) (fun _ _ _ h => h) (Or.inl ⟨by rfl, ?hy3x4⟩) (by assumption) ?rest3x4
  case hy3x4 => (intro w hSw; (try dsimp only at hSw); go_simp; try with_reducible rfl)
  (try simp only [Act.put, List.getElem_toArray, List.getElem_cons_zero, List.getElem_cons_succ, List.setIfInBounds_toArray, List.set_cons_zero, List.set_cons_succ])
  refine wpAnyH_take (i := 4) (v := ?va4x5) rfl (by kernel_rfl) (by kernel_rfl) (by kernel_rfl) (fun _ _ _ h => h) (Or.inl ⟨by rfl, ?hy4x5⟩) (by assumption) ?rest4x5
  case hy4x5 => (intro w hSw; (try dsimp only at hSw); go_simp; try with_reducible rfl)
  (try simp only [Act.put, List.getElem_toArray, List.getElem_cons_zero, List.getElem_cons_succ, List.setIfInBounds_toArray, List.set_cons_zero, List.set_cons_succ])
  refine wpAnyH_take (i := 5) (v := ?va5x6) rfl (by kernel_rfl) (by kernel_rfl) (by kernel_rfl) (fun _ _ _ h => h) (Or.inl ⟨by rfl, ?hy5x6⟩) (by assumption) ?rest5x6
  case hy5x6 => (intro w hSw; (try dsimp only at hSw); go_simp; try with_reducible rfl)
  (try simp only [Act.put, List.getElem_toArray, List.getElem_cons_zero, List.getElem_cons_succ, List.setIfInBounds_toArray, List.set_cons_zero, List.set_cons_succ])
  refine wpAnyH_take (i := 6) (v := ?va6x7) rfl (by kernel_rfl) (by kernel_rfl) (by kernel_rfl) (fun _ _ _ h => h) (Or.inl ⟨by rfl, ?hy6x7⟩) (by assumption) ?rest6x7
  case hy6x7 => (intro w hSw; (try dsimp only at hSw); go_simp; try with_reducible rfl)
  (try simp only [Act.put, List.getElem_toArray, List.getElem_cons_zero, List.getElem_cons_succ, List.setIfInBounds_toArray, List.set_cons_zero, List.set_cons_succ])
  refine wpAnyH_take (i := 7) (v := ?va7x8) rfl (by kernel_rfl) (by kernel_rfl) (by kernel_rfl) (fun _ _ _ h => h) (Or.inl ⟨by rfl, ?hy7x8⟩) (by assumption) ?rest7x8
  case hy7x8 => (intro w hSw; (try dsimp only at hSw); go_simp; try with_reducible rfl)
  (try simp only [Act.put, List.getElem_toArray, List.getElem_cons_zero, List.getElem_cons_succ, List.setIfInBounds_toArray, List.set_cons_zero, List.set_cons_succ])
  refine wpAnyH_take (i := 8) (v := ?va8x9) rfl (by kernel_rfl) (by kernel_rfl) (by kernel_rfl) (fun _ _ _ h => h) (Or.inl ⟨by rfl, ?hy8x9⟩) (by assumption) ?rest8x9
  case hy8x9 => (intro w hSw; (try dsimp only at hSw); go_simp; try with_reducible rfl)
  (try simp only [Act.put, List.getElem_toArray, List.getElem_cons_zero, List.getElem_cons_succ, List.setIfInBounds_toArray, List.set_cons_zero, List.set_cons_succ])
  refine wpAnyH_take (i := 9) (v := ?va9x10) rfl (by kernel_rfl) (by kernel_rfl) (by kernel_rfl) (fun _ _ _ h => h) (Or.inl ⟨by rfl, ?hy9x10⟩) (by assumption) ?rest9x10
  case hy9x10 => (intro w hSw; (try dsimp only at hSw); go_simp; try with_reducible rfl)
  (try simp only [Act.put, List.getElem_toArray, List.getElem_cons_zero, List.getElem_cons_succ, List.setIfInBounds_toArray, List.set_cons_zero, List.set_cons_succ])
  refine wpAnyH_ready (rs := [10]) (by kernel_rfl) (by simp) ?_
  refine AllReadyH.cons rfl (fun K hK => ?_) AllReadyH.nil
  go_simp
  refine hK.out _ _ (⟨RD.out.cell 0, RD.out.cell 1, RD.out.cell 2, RD.out.cell 3⟩) (fun hHeld => ?_)
  clear hK K
  (try simp only [Act.put, List.getElem_toArray, List.getElem_cons_zero, List.getElem_cons_succ, List.setIfInBounds_toArray, List.set_cons_zero, List.set_cons_succ])
  refine wpAnyH_ready (rs := [11]) (by kernel_rfl) (by simp) ?_
  refine AllReadyH.cons rfl (fun K hK => ?_) AllReadyH.nil
  go_simp
  refine (s_l6ScanM lo hi a b c d h cs k _ OD.out HK.out HKF.out HIN.out HRL.out).mono ?_
  rintro e w6 ⟨rfl, ho6, hc6⟩
  have O6 := Lib.hid ho6; have C6 := Lib.hid (CD.out.trans hc6)
  have R6 := Lib.hid (Row.chg RD.out hc6 (.inr (by have := HS.out; omega)))
  clear ho6 hc6
  refine hK.out _ _ (⟨R6.out.cell 0, R6.out.cell 1, R6.out.cell 2, R6.out.cell 3⟩) (fun hHeld => ?_)
  clear hK K
  (try simp only [Act.put, List.getElem_toArray, List.getElem_cons_zero, List.getElem_cons_succ, List.setIfInBounds_toArray, List.set_cons_zero, List.set_cons_succ])
  refine wpAnyH_done (by kernel_rfl) ?_ _
  clear hHeld dt
  go_wp2_with fail
  go_ret
  exact ⟨r_b HF.out, by rw [HE.out]; exact O6.out, C6.out⟩
end Go.Proofs.Ytdagkbgobnaijaa
namespace Go.Proofs.Ytdagkbgobnaijaa.Ph
/-- So many scans are done. -/
structure Fk (h : H) (cs0 cs : List Int) (n : Nat) : Prop where
  eq : cs = finN h cs0 n
  l0 : cs0.length = h.f.length
  c0 : Col cs0
  cnt : n ≤ blk cs h.f.length
  ne : ∀ m, m < n → ofC (finN h cs0 m) 1 ≠ []
theorem Fk.start {h : H} {cs0 : List Int} (hl : cs0.length = h.f.length) (hc : Col cs0) : Fk h cs0 cs0 0 := ⟨rfl, hl, hc, Nat.zero_le _, fun m hm => by omega⟩
theorem Fk.len {h : H} {cs0 cs : List Int} {n : Nat} (k : Fk h cs0 cs n) : cs.length = h.f.length := by rw [k.eq, finN_len, k.l0]
theorem Fk.col {h : H} {cs0 cs : List Int} {n : Nat} (k : Fk h cs0 cs n) : Col cs := by rw [k.eq]; exact k.c0.finN n
theorem Fk.le {h : H} {cs0 cs : List Int} {n : Nat} (k : Fk h cs0 cs n) : n ≤ h.f.length := Nat.le_trans k.cnt (blk_le _ _)
theorem Fk.step {h : H} {cs0 cs : List Int} {n : Nat} (k : Fk h cs0 cs n) (e : ofC cs 1 ≠ []) : Fk h cs0 (scan cs (h.f.getD (greyN cs 0) []) (greyN cs 0)) (n + 1) := by
  have e1 : scan cs (h.f.getD (greyN cs 0) []) (greyN cs 0) = scanF h cs := (scanF_yes e).symm
  have h1 := blk_scanF k.len e
  have h2 := k.cnt
  rw [e1]
  refine ⟨by rw [k.eq]; rfl, k.l0, k.c0, by omega, fun m hm => ?_⟩
  by_cases q : m = n
  · rw [q, ← k.eq]; exact e
  · exact k.ne m (by omega)
theorem Fk.done {h : H} {cs0 cs : List Int} {n : Nat} (k : Fk h cs0 cs n) (hn : n ≤ 12) (e : ofC cs 1 = []) : cs = finC h cs0 ∧ finC h cs0 = finN h cs0 n ∧ ofC (finN h cs0 n) 1 = [] ∧ ∀ m, m < n → ofC (finN h cs0 m) 1 ≠ [] := by
  have e' : ofC (finN h cs0 n) 1 = [] := by rw [← k.eq]; exact e
  have f := finC_stop e' hn
  exact ⟨by rw [f]; exact k.eq, f, e', k.ne⟩
theorem grey0 {cs : List Int} (r k : Nat) (hr : r = 0) (e : (ofC cs 1).getD r 0 = (k : Int)) : k = greyN cs 0 := by
  unfold greyN
  rw [show ((0 : Int).toNat % (ofC cs 1).length) = 0 by simp, ← hr, e]; rfl
theorem ofne {cs : List Int} (h : 0 < (ofC cs 1).length) : ofC cs 1 ≠ [] := List.length_pos_iff.1 h
end Go.Proofs.Ytdagkbgobnaijaa.Ph
namespace Go.Proofs.Ytdagkbgobnaijaa
open Go.RowKit Ph

/-- While the marking goes on. -/
structure Fini7 (W w wr : World) (gm gu gb : Nat) (a b c v p cv : Value) (h : H) (cs0 zs : List Int) (n : Nat) (cs : List Int) : Prop where
  mark : Fk h cs0 cs n
  own : Own wr W.heap.size v cs
  m : Row wr gm 97 (c5 a b c v p)
  u : Row wr gu 3 #[.int .i64 ((min n zs.length : Nat) : Int)]
  b : Row wr gb 24 #[cv]
  low : Below W.heap.size W wr
  fr : ∀ i, i < w.heap.size → v.ownBlock ≠ some i → i ≠ gu → wr.heap[i]? = w.heap[i]?
  sz : w.heap.size ≤ wr.heap.size
section
variable {W w wr w' : World} {gm gu gb n : Nat} {a b c v p cv : Value} {h : H} {cs0 zs cs : List Int}
theorem Fini7.below (k : Fini7 W w wr gm gu gb a b c v p cv h cs0 zs n cs) (hb : Below wr.heap.size wr w') : Fini7 W w w' gm gu gb a b c v p cv h cs0 zs n cs :=
  ⟨k.mark, k.own.below hb, k.m.below hb, k.u.below hb, k.b.below hb, bst k.low hb k.low.size, fun i hi h1 h2 => (hb.block i (Nat.lt_of_lt_of_le hi k.sz)).trans (k.fr i hi h1 h2), Nat.le_trans k.sz hb.size⟩
theorem Fini7.rest (k : Fini7 W w wr gm gu gb a b c v p cv h cs0 zs n cs) (hg : wr.grownBy w' (some gu)) (hu : Row w' gu 3 #[.int .i64 ((min (n + 1) zs.length : Nat) : Int)]) (hgu : W.heap.size ≤ gu) (h1 : v.ownBlock ≠ some gu) (h2 : gm ≠ gu) (h3 : gb ≠ gu) :
    Own w' W.heap.size v cs ∧ Row w' gm 97 (c5 a b c v p) ∧ Row w' gb 24 #[cv] ∧ Below W.heap.size W w' ∧ (∀ i, i < w.heap.size → v.ownBlock ≠ some i → i ≠ gu → w'.heap[i]? = w.heap[i]?) ∧ w.heap.size ≤ w'.heap.size ∧ Row w' gu 3 #[.int .i64 ((min (n + 1) zs.length : Nat) : Int)] :=
  ⟨owns_block k.own fun g hg' => hg.block g (owns_lt k.own hg').2 (fun e => h1 (by rw [hg', e])), Row.grownBy k.m hg (by simpa using Ne.symm h2), Row.grownBy k.b hg (by simpa using Ne.symm h3), k.low.grown hg k.low.size (fun _ e => by cases e; exact hgu), fun i hi q1 q2 => (hg.block i (Nat.lt_of_lt_of_le hi k.sz) (by simpa using q2)).trans (k.fr i hi q1 q2), Nat.le_trans k.sz hg.size, hu⟩
theorem Fini7.next {w2 : World} {cs' : List Int} {n' : Nat} (ho : Own w' W.heap.size v cs) (hm : Row w' gm 97 (c5 a b c v p)) (hb : Row w' gb 24 #[cv]) (hlow : Below W.heap.size W w') (hfr : ∀ i, i < w.heap.size → v.ownBlock ≠ some i → i ≠ gu → w'.heap[i]? = w.heap[i]?) (hsz : w.heap.size ≤ w'.heap.size) (hu : Row w' gu 3 #[.int .i64 ((min n' zs.length : Nat) : Int)])
    (hmk : Fk h cs0 cs' n') (hg : w'.grownBy w2 v.ownBlock) (ho2 : Own w2 W.heap.size v cs') (h1 : v.ownBlock ≠ some gu) (h2 : v.ownBlock ≠ some gm) (h3 : v.ownBlock ≠ some gb) : Fini7 W w w2 gm gu gb a b c v p cv h cs0 zs n' cs' :=
  ⟨hmk, ho2, Row.grownBy hm hg h2, Row.grownBy hu hg h1, Row.grownBy hb hg h3, hlow.grown hg hlow.size (fun _ e => (owns_lt ho e).1), fun i hi q1 q2 => (hg.block i (Nat.lt_of_lt_of_le hi hsz) (fun e => q1 e.symm)).trans (hfr i hi q1 q2), Nat.le_trans hsz hg.size⟩
end
set_option maxRecDepth 100000 in
set_option maxHeartbeats 3200000 in
theorem c_finish7 (W : World) (a b c v cv : Value) (h : H) (cs0 zs : List Int) (gu gb : Nat) (w : World) (hF : RowsAt W a h.f) (hG : Ph.Good h) (hz : IntsAt W cv zs) (hch : choB zs = true) (hz0 : ∀ n, zs.getD n 0 = 0) (hl0 : cs0.length = h.f.length) (hc0 : Col cs0) (hB : Below W.heap.size W w) (ho : Own w W.heap.size v cs0) (hU : Row w gu 3 #[.int .i64 0]) (hC : Row w gb 24 #[cv]) (hgu : W.heap.size ≤ gu) (hne : v.ownBlock ≠ some gu) (hne2 : v.ownBlock ≠ some gb) (hgb : gb ≠ gu) :
    Calls Try.prog 86 #[mkv a b c v (.func (.func 119) #[] #[.pointer (some ⟨gu, 0, none⟩), .pointer (some ⟨gb, 0, none⟩)])] w fun e w' => (∃ n : Nat, e = .returned (.int .i64 (n : Int)) ∧ n ≤ 12 ∧ finC h cs0 = finN h cs0 n ∧ ofC (finN h cs0 n) 1 = [] ∧ ∀ m, m < n → ofC (finN h cs0 m) 1 ≠ []) ∧ Own w' W.heap.size v (finC h cs0) ∧ Below W.heap.size W w' ∧ (∀ i, i < w.heap.size → v.ownBlock ≠ some i → i ≠ gu → w'.heap[i]? = w.heap[i]?) ∧ w.heap.size ≤ w'.heap.size := by
  have hb0 := below1 w (.cells (c5 a b c v (.func (.func 119) #[] #[.pointer (some ⟨gu, 0, none⟩), .pointer (some ⟨gb, 0, none⟩)])) 97)
  obtain ⟨hzl, hzr⟩ := choB_iff.1 hch
  have F0 : Fini7 W w (w.alloc (.cells (c5 a b c v (.func (.func 119) #[] #[.pointer (some ⟨gu, 0, none⟩), .pointer (some ⟨gb, 0, none⟩)])) 97)) w.heap.size gu gb a b c v (.func (.func 119) #[] #[.pointer (some ⟨gu, 0, none⟩), .pointer (some ⟨gb, 0, none⟩)]) cv h cs0 zs 0 cs0 :=
    ⟨Fk.start hl0 hc0, ho.below hb0, Row.new w _ _, by rw [Nat.zero_min]; exact Row.alloc hU _, Row.alloc hC _, bst hB hb0 hB.size, fun i hi _ _ => hb0.block i hi, hb0.size⟩
  have HGM : Hid (v.ownBlock ≠ some w.heap.size) := fun e => by have := (owns_lt ho e).2; omega
  have HMU : Hid (w.heap.size ≠ gu) := by unfold Hid; have := hU.lt; omega
  have HF := Lib.hid hF; have HG := Lib.hid hG; have HZ := Lib.hid hz; have HN1 := Lib.hid hne; have HN2 := Lib.hid hne2; have HGU := Lib.hid hgu; have HGB := Lib.hid hgb; have HZL := Lib.hid hzl; have HZR := Lib.hid hzr; have HZ0 := Lib.hid hz0; have FF0 := Lib.hid F0
  clear hl0 hc0 hz0 hF hG hz hch hB ho hU hC hgu hne hne2 hgb hb0 F0 hzl hzr
  go_enter Try.func86, Try.ntmps86
  go_wp2
  generalize hgm : w.heap.size = gm at *
  generalize (w.alloc (.cells (c5 a b c v (.func (.func 119) #[] #[.pointer (some ⟨gu, 0, none⟩), .pointer (some ⟨gb, 0, none⟩)])) 97)) = w0 at *
  go_loopw [3] (fun i wr => ∃ n cs, i = .int .i64 (n : Nat) ∧ n ≤ 12 ∧ Hid (Fini7 W w wr gm gu gb a b c v (.func (.func 119) #[] #[.pointer (some ⟨gu, 0, none⟩), .pointer (some ⟨gb, 0, none⟩)]) cv h cs0 zs n cs)) (fun i _ => 13 - (intOf i).toNat)
  case atStart => exact ⟨0, cs0, rfl, Nat.zero_le _, FF0⟩
  case round =>
    obtain ⟨n, cs, rfl, hn12, hfin⟩ := hrel
    have hcl : cs.length ≤ 12 := by rw [hfin.out.mark.len]; exact HG.out.n
    have m3 := hfin.out.m.cell 3
    go_wp2_with fail
    refine (c_thingsOf v cs 1 wr hfin.out.own.ints hcl).mono ?_
    rintro e w4 ⟨v4, rfl, ho4, hb4⟩
    have F4 := Lib.hid (hfin.out.below hb4)
    have T4 := Lib.hid ho4.ints
    have T4B : Hid (∀ g, v4.ownBlock = some g → wr.heap.size ≤ g) := fun g e => (owns_lt ho4 e).1
    have HLR : Hid (gu < wr.heap.size) := hfin.out.u.lt
    have HDN := Lib.hid (fun q => hfin.out.mark.done hn12 q)
    have HGA := Lib.hid (greyAt (cs := cs)); have HKG := Lib.hid (grey0 (cs := cs)); have HNE := Lib.hid (ofne (cs := cs)); have HSTP := Lib.hid (fun e => hfin.out.mark.step e)
    have htl : (ofC cs 1).length ≤ 12 := Nat.le_trans (ofTo_len _ _ _) hcl
    rcases ho4.shape' with ⟨rfl, h0⟩ | ⟨tb, tc, rfl⟩
    · obtain ⟨e1, e2, e3, e4⟩ := HDN.out h0
      have HX1 : Hid (Own w4 W.heap.size v (finC h cs0)) := by rw [← e1]; exact F4.out.own
      have HX2 := Lib.hid (And.intro e2 (And.intro e3 e4))
      clear e1 e2 e3 e4 ho4 hb4 m3
      go_wp2_with fail
      go_ret
      exact ⟨⟨n, rfl, hn12, HX2.out⟩, HX1.out, F4.out.low, F4.out.fr, F4.out.sz⟩
    clear ho4 hb4 m3
    generalize ofC cs 1 = ts at *
    generalize hk : ts.length = q at *
    have HQ := Lib.hid hk; clear hk
    by_cases hq0 : q = 0
    · subst hq0
      obtain ⟨e1, e2, e3, e4⟩ := HDN.out (List.eq_nil_of_length_eq_zero HQ.out)
      have HX1 : Hid (Own w4 W.heap.size v (finC h cs0)) := by rw [← e1]; exact F4.out.own
      have HX2 := Lib.hid (And.intro e2 (And.intro e3 e4))
      clear e1 e2 e3 e4
      go_wp2_with fail
      go_ret
      exact ⟨⟨n, rfl, hn12, HX2.out⟩, HX1.out, F4.out.low, F4.out.fr, F4.out.sz⟩
    · have hq1 : ((q : Int) == 0) = false := by simp; omega
      have hq3 : 0 < q := by omega
      obtain ⟨hx0, hx100⟩ := HZR.out n
      obtain ⟨r, hrm, hrq⟩ := pickOf (zs.getD n 0) hx0 hq3
      obtain ⟨k, hgk, hkc, hk1⟩ := HGA.out r hrq
      have hkg : k = greyN cs 0 := HKG.out r k (by have := hrm; rw [HZ0.out, Int.zero_tmod] at this; omega) hgk
      have hcne := HNE.out hq3
      have qt : w4.cell? ⟨tb, r, none⟩ = some (.int .i64 (ts.getD r 0)) := by
        obtain ⟨tb', to', e, q'⟩ := T4.out.at' hq3
        cases e
        have := q' r hrq
        rwa [Nat.zero_add] at this
      rw [hgk] at qt
      have r0 : (0 : Int) ≤ (r : Int) := by omega
      have r1 : (r : Int) < (q : Int) := by omega
      have HMK : Hid (Fk h cs0 (scan cs (h.f.getD k []) k) (n + 1)) := (by unfold Hid; rw [hkg]; exact HSTP.out hcne)
      have hn1 : n + 1 ≤ 12 := by have := HMK.out.le; have := HG.out.n; omega
      clear hkg hcne
      have HKC := Lib.hid hkc
      have HK1 : Hid (cs.getD k 0 ≠ 0) := by unfold Hid; rw [hk1]; omega
      have HKF : Hid (k < h.f.length) := by unfold Hid; rw [← hfin.out.mark.len]; exact hkc
      have HIN : Hid (∀ z ∈ h.f.getD k [], inR cs.length z) := fun z hz => by rw [hfin.out.mark.len]; exact (HG.out.field hz).imp id (fun h => ⟨h.1, h.2.1⟩)
      have HRL : Hid ((h.f.getD k []).length ≤ 3) := (HG.out.row k (by rw [← hfin.out.mark.len]; exact hkc)).1
      have HTU : Hid (tb ≠ gu) := by unfold Hid; have := T4B.out tb rfl; have := HLR.out; omega
      have HTV : Hid (v.ownBlock ≠ some tb) := fun e => by have := T4B.out tb rfl; have := (owns_lt hfin.out.own e).2; omega
      have HPK := Lib.hid (fun w' hB hU hC => c_pickOf W gu gb q n cv zs w' HZ.out hB hU hC ⟨hx0, hx100⟩ HZL.out hq3 HGU.out HGB.out)
      rw [hrm] at HPK
      clear hgk hkc hk1 HDN HGA HKG HNE HSTP hrm hx100 hx0
      go_wp2_with fail
      have FD : Hid (Fini7 W w w4.drew gm gu gb a b c v (.func (.func 119) #[] #[.pointer (some ⟨gu, 0, none⟩), .pointer (some ⟨gb, 0, none⟩)]) cv h cs0 zs n cs) := F4.out.below (below_drew (Below.refl _ _))
      have d0 := FD.out.m.cell 0
      have d1 := FD.out.m.cell 1
      have d2 := FD.out.m.cell 2
      have d3 := FD.out.m.cell 3
      have d4 := FD.out.m.cell 4
      have dt : w4.drew.cell? ⟨tb, r, none⟩ = some (.int .i64 (k : Int)) := qt
      refine wp_region_held_drew (S := (fun w' => w'.cell? ⟨gm, 0, none⟩ = some a ∧ w'.cell? ⟨gm, 1, none⟩ = some b ∧ w'.cell? ⟨gm, 2, none⟩ = some c ∧ w'.cell? ⟨gm, 3, none⟩ = some v ∧ w'.cell? ⟨gm, 4, none⟩ = some (.func (.func 119) #[] #[.pointer (some ⟨gu, 0, none⟩), .pointer (some ⟨gb, 0, none⟩)]) ∧ w'.cell? ⟨tb, r, none⟩ = some (.int .i64 (k : Int)))) (by kernel_rfl) (⟨d0, d1, d2, d3, d4, dt⟩) (fun hHeld => ?_)
      refine wpAnyH_take (i := 0) (v := ?va0x1) rfl (by kernel_rfl) (by kernel_rfl) (by kernel_rfl) (fun _ _ _ h => h) (Or.inl ⟨by rfl, ?hy0x1⟩) (by assumption) ?rest0x1
      case hy0x1 => (intro w hSw; (try dsimp only at hSw); go_simp; try with_reducible rfl)
      (try simp only [Act.put, List.getElem_toArray, List.getElem_cons_zero, List.setIfInBounds_toArray, List.set_cons_zero, List.set_cons_succ])
      refine wpAnyH_take (i := 1) (v := ?va1x2) rfl (by kernel_rfl) (by kernel_rfl) (by kernel_rfl) (fun _ _ _ h => h) (Or.inl ⟨by rfl, ?hy1x2⟩) (by assumption) ?rest1x2
      case hy1x2 => (intro w hSw; (try dsimp only at hSw); go_simp; try with_reducible rfl)
      (try simp only [Act.put, List.getElem_toArray, List.getElem_cons_zero, List.getElem_cons_succ, List.setIfInBounds_toArray, List.set_cons_zero, List.set_cons_succ])
      refine wpAnyH_take (i := 2) (v := ?va2x3) rfl (by kernel_rfl) (by kernel_rfl) (by kernel_rfl) (fun _ _ _ h => h) (Or.inl ⟨by rfl, ?hy2x3⟩) (by assumption) ?rest2x3
      case hy2x3 => (intro w hSw; (try dsimp only at hSw); go_simp; try with_reducible rfl)
      (try simp only [Act.put, List.getElem_toArray, List.getElem_cons_zero, List.getElem_cons_succ, List.setIfInBounds_toArray, List.set_cons_zero, List.set_cons_succ])
      refine wpAnyH_take (i := 3) (v := ?va3x4) rfl (by kernel_rfl) (by kernel_rfl) (by kernel_rfl) (fun _ _ _ h => h) (Or.inl ⟨by rfl, ?hy3x4⟩) (by assumption) ?rest3x4
      case hy3x4 => (intro w hSw; (try dsimp only at hSw); go_simp; try with_reducible rfl)
      (try simp only [Act.put, List.getElem_toArray, List.getElem_cons_zero, List.getElem_cons_succ, List.setIfInBounds_toArray, List.set_cons_zero, List.set_cons_succ])
      refine wpAnyH_take (i := 4) (v := ?va4x5) rfl (by kernel_rfl) (by kernel_rfl) (by kernel_rfl) (fun _ _ _ h => h) (Or.inl ⟨by rfl, ?hy4x5⟩) (by assumption) ?rest4x5
      case hy4x5 => (intro w hSw; (try dsimp only at hSw); go_simp; try with_reducible rfl)
      (try simp only [Act.put, List.getElem_toArray, List.getElem_cons_zero, List.getElem_cons_succ, List.setIfInBounds_toArray, List.set_cons_zero, List.set_cons_succ])
      refine wpAnyH_take (i := 5) (v := ?va5x6) rfl (by kernel_rfl) (by kernel_rfl) (by kernel_rfl) (fun _ _ _ h => h) (Or.inl ⟨by rfl, ?hy5x6⟩) (by assumption) ?rest5x6
      case hy5x6 => (intro w hSw; (try dsimp only at hSw); go_simp; try with_reducible rfl)
      (try simp only [Act.put, List.getElem_toArray, List.getElem_cons_zero, List.getElem_cons_succ, List.setIfInBounds_toArray, List.set_cons_zero, List.set_cons_succ])
      refine wpAnyH_ready (rs := [6]) (by kernel_rfl) (by simp) ?_
      refine AllReadyH.cons rfl (fun K hK => ?_) AllReadyH.nil
      go_simp
      refine (HPK.out _ FD.out.low FD.out.u FD.out.b).mono ?_
      rintro e w5 ⟨rfl, hu5, hg5⟩
      obtain ⟨o5, m5, b5, l5, f5, s5, u5⟩ := FD.out.rest hg5 hu5 HGU.out HN1.out HMU.out HGB.out
      have dt5 := cellGrown hg5 HTU.out dt
      have O5 := Lib.hid o5; have M5 := Lib.hid m5; have B5 := Lib.hid b5; have L5 := Lib.hid l5; have FR5 := Lib.hid f5; have S5 := Lib.hid s5; have U5 := Lib.hid u5
      clear o5 m5 b5 l5 f5 s5 u5 hu5 hg5
      refine hK.out _ _ (⟨M5.out.cell 0, M5.out.cell 1, M5.out.cell 2, M5.out.cell 3, M5.out.cell 4, dt5⟩) (fun hHeld => ?_)
      clear hK K
      (try simp only [Act.put, List.getElem_toArray, List.getElem_cons_zero, List.getElem_cons_succ, List.setIfInBounds_toArray, List.set_cons_zero, List.set_cons_succ])
      refine wpAnyH_take (i := 7) (v := ?va7x7) rfl (by kernel_rfl) (by kernel_rfl) (by kernel_rfl) (fun _ _ _ h => h) (Or.inl ⟨by rfl, ?hy7x7⟩) (by assumption) ?rest7x7
      case hy7x7 => (intro w hSw; (try dsimp only at hSw); go_simp; try with_reducible rfl)
      (try simp only [Act.put, List.getElem_toArray, List.getElem_cons_zero, List.getElem_cons_succ, List.setIfInBounds_toArray, List.set_cons_zero, List.set_cons_succ])
      refine wpAnyH_take (i := 8) (v := ?va8x8) rfl (by kernel_rfl) (by kernel_rfl) (by kernel_rfl) (fun _ _ _ h => h) (Or.inl ⟨by rfl, ?hy8x8⟩) (by assumption) ?rest8x8
      case hy8x8 => (intro w hSw; (try dsimp only at hSw); go_simp; try with_reducible rfl)
      (try simp only [Act.put, List.getElem_toArray, List.getElem_cons_zero, List.getElem_cons_succ, List.setIfInBounds_toArray, List.set_cons_zero, List.set_cons_succ])
      refine wpAnyH_ready (rs := [9]) (by kernel_rfl) (by simp) ?_
      refine AllReadyH.cons rfl (fun K hK => ?_) AllReadyH.nil
      go_simp
      refine (c_darkenB W a b c (.func (.func 119) #[] #[.pointer (some ⟨gu, 0, none⟩), .pointer (some ⟨gb, 0, none⟩)]) v h.f cs k _ HF.out L5.out O5.out F4.out.mark.col HKC.out HKF.out HK1.out HIN.out HRL.out).mono ?_
      rintro e w6 ⟨rfl, ho6, hg6⟩
      have F6 := Lib.hid (Fini7.next O5.out M5.out B5.out L5.out FR5.out S5.out U5.out HMK.out hg6 ho6 HN1.out HGM.out HN2.out)
      have M6 := Lib.hid F6.out.m
      have dt6 : w6.cell? ⟨tb, r, none⟩ = some (.int .i64 (k : Int)) := by rw [World.cell?, hg6.block tb (block_lt_of_cell dt5) (HTV.out ·.symm)]; exact dt5
      clear ho6 hg6
      refine hK.out _ _ (⟨M6.out.cell 0, M6.out.cell 1, M6.out.cell 2, M6.out.cell 3, M6.out.cell 4, dt6⟩) (fun hHeld => ?_)
      clear hK K
      (try simp only [Act.put, List.getElem_toArray, List.getElem_cons_zero, List.getElem_cons_succ, List.setIfInBounds_toArray, List.set_cons_zero, List.set_cons_succ])
      refine wpAnyH_done (by kernel_rfl) ?_ _
      clear hHeld d0 d1 d2 d3 d4 dt
      go_wp2_with fail
      go_roundw
      case rel => exact ⟨n + 1, _, by go_num, hn1, F6⟩
      case measure => simp [intOf]; omega
end Go.Proofs.Ytdagkbgobnaijaa
namespace Go.Proofs.Ytdagkbgobnaijaa
open Go.RowKit Ph

set_option maxRecDepth 100000 in
set_option maxHeartbeats 3200000 in
theorem s_l5Keep (a b c kv : Value) (h : H) (ks : List Bool) (lo hi : Nat) (w : World) (hO : OwnH w lo hi a b c h) (hK : OwnBs w hi kv ks) (hs : hi ≤ w.heap.size) (hlf : h.l.length = h.f.length) (hkl : ks.length = h.f.length) (hn : h.f.length ≤ 12) :
    Calls Try.prog 80 #[hv a b c, kv] w fun e w' => e = .returned (.tuple #[hv a b c, .int .i64 ((keepTo h ks h.f.length).2 : Int)]) ∧ OwnH w' lo hi a b c (keepTo h ks h.f.length).1 ∧ Chg lo hi w w' := by
  have hb0 := (below1 w (.cells (c3 a b c) 32)).alloc (by simp) (.cells (c3 (.slice none 0 0) (.slice none 0 0) (.slice none 0 0)) 32)
  have O0 := Lib.hid (hO.below hb0); have K0 := Lib.hid (OwnBs.below hK hb0)
  have C0 := Lib.hid (Chg.of_below (lo := lo) (hi := hi) hb0)
  have R0 := Lib.hid (show RowH _ _ a b c from (Row.new w 32 (c3 a b c)).alloc (.cells (c3 (.slice none 0 0) (.slice none 0 0) (.slice none 0 0)) 32))
  have Q0 := Lib.hid (show RowH _ (w.heap.size + 1) (.slice none 0 0) (.slice none 0 0) (.slice none 0 0) from Row.new1 w (.cells (c3 a b c) 32) 32 (c3 (.slice none 0 0) (.slice none 0 0) (.slice none 0 0)))
  have HKT := Lib.hid (keepTo_len h ks)
  obtain ⟨⟨pa, qa, rfl⟩, ⟨pb, qb, rfl⟩, ⟨pc, qc, rfl⟩⟩ := hO.shapes
  obtain ⟨pk, qk, rfl⟩ := (owns_bools hK).shape
  rw [hlf] at O0 C0 R0 K0 Q0 ⊢
  rw [hkl] at K0 ⊢
  have HLF := Lib.hid hlf; have HS := Lib.hid hs; have HKL := Lib.hid hkl
  clear hO hK hb0 hlf hs hkl
  generalize hnn : h.f.length = n at *
  have HN := Lib.hid hnn
  clear hnn
  generalize h.r.length = nr at *
  have hc1 := R0.out.c1
  go_enter Try.func80, Try.ntmps80
  go_wp2_with fail
  clear hc1
  generalize ((w.alloc (.cells (c3 (.slice pa n qa) (.slice pb n qb) (.slice pc nr qc)) 32)).alloc (.cells (c3 (.slice none 0 0) (.slice none 0 0) (.slice none 0 0)) 32)) = w0 at *
  go_loopw [6, 11] (fun cnt i wr => ∃ j : Nat, j ≤ n ∧ i = .int .i64 j ∧ ∃ m : Nat, Hid ((keepTo h ks j).2 = m) ∧ m ≤ j ∧ cnt = .int .i64 m ∧ Hid (OwnH wr lo hi (.slice pa n qa) (.slice pb n qb) (.slice pc nr qc) (keepTo h ks j).1) ∧ Hid (OwnBs wr hi (.slice pk n qk) ks) ∧ Hid (RowH wr w.heap.size (.slice pa n qa) (.slice pb n qb) (.slice pc nr qc)) ∧ Hid (RowH wr (w.heap.size + 1) (.slice none 0 0) (.slice none 0 0) (.slice none 0 0)) ∧ Hid (Chg lo hi w wr)) (fun _ i _ => n - (intOf i).toNat)
  case atStart => exact ⟨0, Nat.zero_le _, rfl, 0, rfl, Nat.le_refl _, rfl, O0, K0, R0, Q0, C0⟩
  case round =>
    obtain ⟨j, hj, rfl, m, hm, hmj, rfl, hO, hK, hR, hQ, hC⟩ := hrel
    by_cases hlt : j < n
    · obtain ⟨e1, e2, _, _⟩ := HKT.out j
      rw [HLF.out] at e2
      obtain ⟨gb, cb, hb, qb1, fb1, oL, cL⟩ := putLiveB hO.out (j := j) (by rw [e2]; exact hlt) false
      rw [e2] at hb
      cases hb
      obtain ⟨gk, ok, hk, hkc⟩ := (owns_bools hK.out).at' (by omega)
      subst hk
      have qk1 := hkc j hlt
      have i1 : (j : Int) < (n : Int) := by omega
      have d0 := hR.out.c0
      have d1 := hR.out.c1
      have hyes := keepTo_yes (h := h) (ks := ks) (j := j)
      have hno := keepTo_no (h := h) (ks := ks) (j := j)
      have HYES := Lib.hid hyes; have HNO := Lib.hid hno
      clear hkc hyes hno
      generalize (keepTo h ks j).1.l.getD j false = on at *
      generalize ks.getD j false = kk at *
      cases on
      · have HE := Lib.hid (HNO.out (.inl rfl))
        clear oL cL
        go_wp2_with fail
        go_roundw
        case rel => exact ⟨j + 1, by omega, by go_num, m, by rw [HE.out]; exact hm, by omega, rfl, by rw [HE.out]; exact hO, hK, hR, hQ, hC⟩
        case measure => simp [intOf]; omega
      · cases kk
        · have HE := Lib.hid (HYES.out rfl rfl)
          have K1 := OwnBs.chg hK.out cL (Nat.le_refl _)
          have R1 : RowH _ _ _ _ _ := Row.chg hR.out cL (.inr HS.out)
          obtain ⟨ga, ca, x, ha, qa1, fa1, oF, cF⟩ := putNil oL (j := j) (by simp only; rw [e1]; exact hlt)
          simp only at ha
          rw [e1] at ha
          cases ha
          have d2 := R1.c0
          have K2 := Lib.hid (OwnBs.chg K1 cF (Nat.le_refl _))
          have R2 : Hid (RowH _ _ _ _ _) := Row.chg R1 cF (.inr HS.out)
          have Q2 : Hid (RowH _ _ _ _ _) := Row.chg (Row.chg hQ.out cL (.inr (by have := HS.out; omega))) cF (.inr (by have := HS.out; omega))
          have C2 := Lib.hid ((hC.out.trans cL).trans cF)
          have O2 := Lib.hid oF
          clear oL cL oF cF K1 R1
          go_wp2_with fail
          go_roundw
          case rel => exact ⟨j + 1, by omega, by go_num, m + 1, by rw [HE.out]; exact congrArg (· + 1) hm.out, by omega, by go_num, by rw [HE.out]; exact O2, K2, R2, Q2, C2⟩
          case measure => simp [intOf]; omega
        · have HE := Lib.hid (HNO.out (.inr rfl))
          clear oL cL
          go_wp2_with fail
          go_roundw
          case rel => exact ⟨j + 1, by omega, by go_num, m, by rw [HE.out]; exact hm, by omega, rfl, by rw [HE.out]; exact hO, hK, hR, hQ, hC⟩
          case measure => simp [intOf]; omega
    · obtain rfl : j = n := by omega
      have HO := Lib.hid hO.out; have HMM := Lib.hid hm.out
      go_wp2_with (first
        | (refine wl_loadH rfl _ rfl w.heap.size _ _ _ hR.out rfl ?_)
        | (refine wl_storeH rfl _ _ rfl (w.heap.size + 1) (.slice pa j qa) (.slice pb j qb) (.slice pc nr qc) _ _ _ hQ.out rfl rfl rfl rfl rfl ?_))
      refine bodyPost_ret (res_row_slot Try.results80 (Row.put hQ.out (c3 (.slice pa j qa) (.slice pb j qb) (.slice pc nr qc))) rfl rfl Try.underlying32 rfl info_heap) rfl ⟨?_, HO.out.wholeRow hQ.out _, ⟨hC.out.os, hC.out.tape, hC.out.output, by rw [size_setRow]; exact hC.out.size, fun i hi hx => (setRow_other _ _ i _ (by omega)).trans (hC.out.block i hi hx)⟩⟩
      rw [HMM.out]; rfl
end Go.Proofs.Ytdagkbgobnaijaa
namespace Go.Proofs.Ytdagkbgobnaijaa
open Go.RowKit Ph

/-- A marking's end under way. -/
structure EndSt (w x : World) (gM lo hi : Nat) (a b c d : Value) (h : H) (cs : List Int) : Prop where
  own : OwnM x lo hi a b c d h cs
  m : RowM x gM a b c d
  r : RowM x (w.heap.size + 1) nilS nilS nilS nilS
  l : Below w.heap.size w x
  q : w.heap.size + 2 ≤ lo
  g : hi ≤ gM
  lg : lo ≤ gM
section
variable {w x y : World} {gM lo hi : Nat} {a b c d : Value} {h h' : H} {cs cs' : List Int}
theorem EndSt.below (k : EndSt w x gM lo hi a b c d h cs) (hb : Below x.heap.size x y) : EndSt w y gM lo hi a b c d h cs := ⟨k.own.below hb, Row.below k.m hb, Row.below k.r hb, bst k.l hb k.l.size, k.q, k.g, k.lg⟩
theorem EndSt.chg (k : EndSt w x gM lo hi a b c d h cs) (ho : OwnM y lo hi a b c d h' cs') (hc : Chg lo hi x y) : EndSt w y gM lo hi a b c d h' cs' := ⟨ho, Row.chg k.m hc (.inr k.g), Row.chg k.r hc (.inl (by have := k.q; omega)), below_chg k.l hc (by have := k.q; omega) k.l.size, k.q, k.g, k.lg⟩
theorem EndSt.setC (k : EndSt w x gM lo hi a b c d h cs) (hg : x.grownBy y d.ownBlock) (ho : ∀ B, Own x B d cs → Own y B d cs') : EndSt w y gM lo hi a b c d h cs' := by
  obtain ⟨r1, r2⟩ := k.own.setC hg ho
  exact k.chg r1 r2
/-- A block beyond all changes. -/
theorem EndSt.far {g : Nat} (k : EndSt w x gM lo hi a b c d h cs) (hg : gM < g) (hb : x.grownBy y (some g)) : EndSt w y gM lo hi a b c d h cs := by
  have hc := Chg.of_grown (lo := g) (hi := g + 1) hb (fun g' e => by cases e; omega)
  have h1 := k.q; have h2 := k.g
  have h3 := k.lg
  exact ⟨k.own.chg hc (.inl (by omega)), Row.chg k.m hc (.inl hg), Row.chg k.r hc (.inl (by omega)), k.l.grown hb k.l.size (fun _ e => by cases e; omega), h1, h2, h3⟩
theorem chgCell (w : World) (g k : Nat) (x : Value) : Chg g (g + 1) w (w.setCell ⟨g, k, none⟩ x) :=
  have bb := (Below.refl g w).setCell (p := ⟨g, k, none⟩) (Nat.le_refl _) x
  ⟨bb.os, bb.tape, bb.output, bb.size, fun i _ hx => heap_setCell_other w ⟨g, k, none⟩ i _ (by simp only; omega)⟩
/-- Its heap is stored into it anew. -/
theorem EndSt.heapStore (k : EndSt w x gM lo hi a b c d h cs) : EndSt w (((x.setCell ⟨gM, 0, none⟩ a).setCell ⟨gM, 1, none⟩ b).setCell ⟨gM, 2, none⟩ c) gM lo hi a b c d h cs := by
  have hc := ((chgCell x gM 0 a).trans (chgCell _ gM 1 b)).trans (chgCell _ gM 2 c)
  have h1 := k.q; have h2 := k.g; have h3 := k.lg
  exact ⟨k.own.chg hc (.inl h2), (Row.set (Row.set (Row.set k.m 0 a) 1 b) 2 c).trans rfl, Row.chg k.r hc (.inl (by omega)), below_chg k.l hc (by omega) k.l.size, h1, h2, h3⟩
end
theorem own_any {w w' : World} {v : Value} {cs cs' : List Int} {B : Nat} (ho' : Own w' B v cs') : ∀ B', Own w B' v cs → Own w' B' v cs' := fun _ h => owns_mono ho' fun _ hg => (owns_lt h hg).1
set_option maxHeartbeats 12800000 in
set_option maxRecDepth 100000 in
theorem s_EndMarking (a b c d : Value) (h : H) (cs : List Int) (put : Bool) (w : World) (hA : HeapAt w a b c h) (hC : IntsAt w d cs) : Calls Try.prog 38 #[mv a b c d, .bool put] w (EndMI (endM h cs put).1 (endM h cs put).2.1 ((endM h cs put).2.2 : Int) (bothB h cs) w) := by
  obtain ⟨i0, hi0, hz0, hz1, hz2⟩ := info_parts info_boolz
  have hb0 := (below1 w (.cells (m4 a b c d) 34)).alloc (by simp) (.cells (m4 nilS nilS nilS nilS) 34)
  have A0 := Lib.hid (hA.below hb0); have Z0 := Lib.hid (hC.below hb0)
  have HB := Lib.hid hb0
  have P0 := Lib.hid (show RowM _ w.heap.size a b c d from (Row.new w 34 (m4 a b c d)).alloc (.cells (m4 nilS nilS nilS nilS) 34))
  have R0 := Lib.hid (show RowM _ (w.heap.size + 1) nilS nilS nilS nilS from Row.new1 w (.cells (m4 a b c d) 34) 34 (m4 nilS nilS nilS nilS))
  clear hA hC hb0
  have HC := Lib.hid (s_GoodMarking a b c d h cs _ A0.out Z0.out)
  have EN := Lib.hid (fun q => Ph.endM_no (h := h) (cs := cs) put q); have EY := Lib.hid (fun q => Ph.endM_yes (h := h) (cs := cs) put q)
  have BI := Lib.hid (bothB_iff (h := h) (cs := cs)).1
  generalize endM h cs put = r at *
  generalize hbb : bothB h cs = x at *
  clear hbb
  have c0 := P0.out.cell 0
  have c1 := P0.out.cell 1
  have c2 := P0.out.cell 2
  have c3 := P0.out.cell 3
  cases x
  · have HE := Lib.hid (EN.out rfl)
    go_enter Try.func38, Try.ntmps38
    go_wp2_with (first
      | (go_at_call 77; refine HC.out.mono ?_; rintro e w1 ⟨rfl, hb1⟩; have B1 := Lib.hid (bst HB.out hb1 HB.out.size); have R1 := Lib.hid (show RowM _ _ _ _ _ _ from Row.below R0.out hb1); clear hb1)
      | (refine wl_storeM rfl _ _ rfl (w.heap.size + 1) nilS nilS nilS nilS _ _ _ _ R1.out rfl rfl rfl rfl rfl rfl ?_))
    refine bodyPost_ret (res_row_slot2 Try.results38 (Row.put R1.out (m4 nilS nilS nilS nilS)) rfl rfl rfl Try.underlying34 rfl info_marking) rfl (endMI_none (below_setRow B1.out (by omega) _) (by rw [HE.out]) (by rw [HE.out]) (by rw [HE.out]; rfl) rfl)
  obtain ⟨hG, hlc, hcol⟩ := BI.out rfl
  have HE := Lib.hid (EY.out rfl)
  have HG := Lib.hid hG; have HLC := Lib.hid hlc; have HCOL := Lib.hid hcol
  clear hG hlc hcol EN EY BI
  go_enter Try.func38, Try.ntmps38
  go_wp2_with (go_at_call 77; refine HC.out.mono ?_; rintro e w1 ⟨rfl, hb1⟩; have B1 := Lib.hid (bst HB.out hb1 HB.out.size); have R1 := Lib.hid (show RowM _ _ _ _ _ _ from Row.below R0.out hb1); have P1 := Row.below P0.out hb1; have d0 := P1.cell 0; have d1 := P1.cell 1; have d2 := P1.cell 2; have d3 := P1.cell 3; have A1 := Lib.hid (A0.out.below hb1); have Z1 := Lib.hid (Z0.out.below hb1); clear hb1 P1)
  refine (s_l7Own a b c d h cs _ A1.out Z1.out (small_good HG.out) (by have := HG.out.n; have := HLC.out; omega)).mono ?_
  rintro e w2 ⟨a2, b2, c2', d2', rfl, ho2, hb2⟩
  obtain ⟨⟨pa, qa, e1⟩, ⟨pb, qb, e2⟩, ⟨pc, qc, e3⟩, ⟨pd, qd, e4⟩⟩ := ho2.shapes
  subst e1 e2 e3 e4
  have HNF : Hid (h.f.length ≤ 12) := HG.out.n
  have HNR : Hid (h.r.length ≤ 4) := HG.out.rn
  generalize hnf : h.f.length = nf at *
  have HF := Lib.hid hnf; clear hnf
  generalize h.l.length = nl at *
  generalize hnr : h.r.length = nr at *
  have HR := Lib.hid hnr; clear hnr
  rw [HLC.out] at ho2 ⊢
  have ba := below1 w2 (.cells (m4 (.slice pa nf qa) (.slice pb nl qb) (.slice pc nr qc) (.slice pd nf qd)) 34)
  have ST := Lib.hid (EndSt.mk (w := w) (gM := w2.heap.size) (lo := w1.heap.size) (hi := w2.heap.size) (ho2.below ba) (show RowM _ w2.heap.size (.slice pa nf qa) (.slice pb nl qb) (.slice pc nr qc) (.slice pd nf qd) from Row.new w2 _ _) (Row.below (Row.below R1.out hb2) ba) (bst (bst B1.out hb2 B1.out.size) ba (bst B1.out hb2 B1.out.size).size) (by have := Row.lt R1.out; omega) (Nat.le_refl _) hb2.size)
  have LO : Hid (w.heap.size + 2 ≤ w1.heap.size) := (by unfold Hid; have := Row.lt R1.out; omega)
  clear ho2 hb2 ba c0 c1 c2 c3 d0 d1 d2 d3 A1 Z1 A0 Z0 P0 R0 HC
  generalize hlo : w1.heap.size = lo at *
  clear hlo R1 B1
  cases put
  · skip
    have HL0' : cs.length = nf := HLC.out
    have HCC : Hid (Col cs) := HCOL
    have HC0 : Hid (cols0 h cs false = cs) := rfl
    have e0 := ST.out.m.cell 0
    have e1 := ST.out.m.cell 1
    have e2 := ST.out.m.cell 2
    have e3 := ST.out.m.cell 3
    go_wp2_with fail
    clear e0 e1 e2 e3
    generalize hgM : w2.heap.size = gM at *
    clear hgM
    generalize hw3 : (w2.alloc (.cells (m4 (.slice pa nf qa) (.slice pb nl qb) (.slice pc nr qc) (.slice pd nf qd)) 34)) = w3 at *
    clear hw3
    have HL0 : Hid (cs.length = nf) := HL0'
    have HBN : Hid (∀ n, bothB h (finN h cs n) = true) := fun n => bothB_iff.2 ⟨HG.out, by rw [finN_len, HL0.out, HF.out], HCC.out.finN n⟩
    have HBS : Hid (∀ n, ofC (finN h cs n) 1 ≠ [] → blk (finN h cs (n + 1)) nf = blk (finN h cs n) nf + 1) := fun n q => by have := blk_scanF (h := h) (cs := finN h cs n) (by rw [finN_len, HL0.out, HF.out]) q; rw [HF.out] at this; exact this
    have HBL : Hid (∀ n, blk (finN h cs n) nf ≤ nf) := fun n => blk_le _ _
    go_loopg [] 13 (fun k wr => ∃ n : Nat, Hid (k + n = 13) ∧ n ≤ 12 ∧ Hid (n ≤ blk (finN h cs n) nf) ∧ Hid (EndSt w wr gM lo gM (.slice pa nf qa) (.slice pb nl qb) (.slice pc nr qc) (.slice pd nf qd) h (finN h cs n)) ∧ Hid (gM < wr.heap.size))
    case atStart => exact ⟨0, rfl, by omega, Nat.zero_le _, ST, ST.out.m.lt⟩
    case round =>
      obtain ⟨n, hk, hn12, hnb, hst, hgw⟩ := hrel
      have e0 := hst.out.m.cell 0
      have e1 := hst.out.m.cell 1
      have e2 := hst.out.m.cell 2
      have e3 := hst.out.m.cell 3
      go_wp2_with fail
      refine (s_l7Scan lo gM (.slice pa nf qa) (.slice pb nl qb) (.slice pc nr qc) (.slice pd nf qd) h (finN h cs n) 0 _ hst.out.own (HBN.out n) (by omega) (by have := hgw.out; omega)).mono ?_
      rintro e w5 ⟨rfl, ho5, hc5⟩
      have S5 : Hid (EndSt w w5 gM lo gM (.slice pa nf qa) (.slice pb nl qb) (.slice pc nr qc) (.slice pd nf qd) h (finN h cs (n + 1))) := hst.out.chg ho5 hc5
      have G5 : Hid (gM < w5.heap.size) := Nat.lt_of_lt_of_le hgw.out hc5.size
      clear ho5 hc5 e0 e1 e2 e3
      have HX : Hid ((!(ofC (finN h cs n) 1).isEmpty) = true → ofC (finN h cs n) 1 ≠ []) := fun q q' => by rw [q'] at q; cases q
      have HX0 : Hid ((!(ofC (finN h cs n) 1).isEmpty) = false → ofC (finN h cs n) 1 = []) := fun q => by cases hq : ofC (finN h cs n) 1 with
        | nil => rfl
        | cons _ _ => rw [hq] at q; cases q
      generalize (!(ofC (finN h cs n) 1).isEmpty) = x at *
      cases x
      rotate_left
      · have hq := HX.out rfl
        have h1 := HBS.out n hq
        have h2 := HBL.out (n + 1)
        have HN1 : Hid (n + 1 ≤ blk (finN h cs (n + 1)) nf) := (by unfold Hid; have := hnb.out; omega)
        have hn13 : n + 1 ≤ 12 := by have := HNF.out; have := HN1.out; omega
        clear hq h1 h2 HX HX0
        go_wp2_with fail
        go_roundg (12 - n)
        case measure => have := hk.out; omega
        case rel => exact ⟨n + 1, by unfold Hid; omega, hn13, HN1, S5, G5⟩
      have hq := HX0.out rfl
      have HFIN : Hid (finC h cs = finN h cs n) := finC_stop hq hn12
      have S6 : Hid (EndSt w w5 gM lo gM (.slice pa nf qa) (.slice pb nl qb) (.slice pc nr qc) (.slice pd nf qd) h (finN h cs n)) := (by { have e1 : finN h cs (n + 1) = finN h cs n := scanF_no hq; rw [e1] at S5; exact S5 })
      have HEN : Hid ((finN h cs n).length = nf) := (by unfold Hid; rw [finN_len]; exact HL0.out)
      have HRR : Hid (r = ((keepTo h (keptB (finN h cs n)) nf).1, finN h cs n, (keepTo h (keptB (finN h cs n)) nf).2)) := (by { unfold Hid; have h1 := HE.out; unfold endC7 at h1; rw [HC0.out, HFIN.out] at h1; exact h1 })
      clear hq HX HX0 HFIN S5 hst hnb hk
      generalize finN h cs n = es at *
      have e0 := S6.out.m.cell 0
      have e1 := S6.out.m.cell 1
      have e2 := S6.out.m.cell 2
      have e3 := S6.out.m.cell 3
      have HS := Lib.hid (fun j => keptTo_set (cs := es) (j := j)); have HL := Lib.hid (fun j => keptTo_len (cs := es) (j := j)); have H0 := Lib.hid (keptTo_zero es); have HAL := Lib.hid (keptTo_all es)
      rw [HEN.out] at HS HL H0 HAL
      go_wp2_with (at_make; refine wpList_make_full _ rfl _ _ 23 rfl w5.heap.size 4 i0 (.bool false) 1 Try.underlying23 hi0 hz0 hz1 .i64 .i64 _ _ nf rfl rfl rfl rfl (by rw [hz2]; have := HNF.out; omega) (by have := HNF.out; unfold maxLen; omega) (by omega) ?_; intro w6 hown hgr
                   rw [rep_bools] at hown
                   have O6 : Hid (OwnBs w6 w5.heap.size (.slice (some ⟨w5.heap.size, 0, none⟩) nf nf) (keptTo es 0)) := (by { unfold Hid OwnBs; rw [H0.out, List.length_replicate]; exact hown })
                   have S7 : Hid (EndSt w w6 gM lo gM (.slice pa nf qa) (.slice pb nl qb) (.slice pc nr qc) (.slice pd nf qd) h es) := S6.out.below ((Below.refl w5.heap.size w5).grown hgr (Nat.le_refl _) (fun k hk => by cases hk))
                   clear hown hgr
                   have f3 := S7.out.m.cell 3)
      clear e0 e1 e2 e3 f3
      generalize w5.heap.size = gk at *
      go_loopw [44] (fun i wr => ∃ j : Nat, j ≤ nf ∧ i = .int .i64 j ∧ Hid (OwnBs wr gk (.slice (some ⟨gk, 0, none⟩) nf nf) (keptTo es j)) ∧ Hid (EndSt w wr gM lo gM (.slice pa nf qa) (.slice pb nl qb) (.slice pc nr qc) (.slice pd nf qd) h es)) (fun i _ => nf - (intOf i).toNat)
      case atStart => exact ⟨0, Nat.zero_le _, rfl, O6, S7⟩
      case round =>
        obtain ⟨j, hj, rfl, ho, hst⟩ := hrel
        have hnf := HNF.out
        by_cases hlt : j < nf
        · obtain ⟨g, off, rfl, hc⟩ := hst.out.own.cols.at' (by omega)
          have q := hc j hlt
          obtain ⟨s1, s2, s3, s4⟩ := ho.out.stored (HL.out j hj) hlt (decide (es.getD j 0 ≠ 0))
          rw [HS.out j hlt] at s1
          have S1 := Lib.hid s1
          have S2 := Lib.hid (hst.out.far G5.out s2)
          have i1 : (j : Int) < (nf : Int) := by omega
          have i2 : (0 : Int) ≤ (j : Int) := by omega
          rw [← ne_zero_dec] at S1 S2
          clear hc s1 s2
          generalize es.getD j 0 = z at *
          generalize (keptTo es j).getD j false = y at *
          go_wp2
          go_roundw
          case rel => exact ⟨j + 1, by omega, by go_num, S1, S2⟩
          case measure => simp [intOf]; omega
        obtain rfl : j = nf := by omega
        rw [HAL.out] at ho
        obtain ⟨l1, h1, l2, h2, k1, k2, q1, q2, q3, q4, q5⟩ := hst.out.own
        have K1 := Lib.hid k1; have K2 := Lib.hid k2; have QQ := Lib.hid (And.intro q1 (And.intro q2 (And.intro q3 (And.intro q4 q5))))
        clear k1 k2
        have e0 := hst.out.m.cell 0
        have e1 := hst.out.m.cell 1
        have e2 := hst.out.m.cell 2
        have e3 := hst.out.m.cell 3
        go_wp2_with fail
        refine (s_l5Keep _ _ _ _ h (keptB es) l1 h1 _ K1.out (owns_mono ho.out fun g hg => by have := (owns_lt ho.out hg).1; have := G5.out; have := QQ.out; omega) (by have := Row.lt hst.out.m; have := QQ.out; omega) (by rw [HG.out.ll]) (by rw [keptB_len, HEN.out, HF.out]) HG.out.n).mono ?_
        rintro e w9 ⟨rfl, ho9, hc9⟩
        rw [HF.out] at ho9 ⊢
        have S9 : Hid (EndSt w w9 gM lo gM (.slice pa j qa) (.slice pb nl qb) (.slice pc nr qc) (.slice pd j qd) (keepTo h (keptB es) j).1 es) := hst.out.chg ⟨l1, h1, l2, h2, ho9, OwnH.chg K2.out hc9 (by have := QQ.out; omega), QQ.out⟩ (hc9.wide (by have := QQ.out; omega) (by have := QQ.out; omega))
        have ba := below1 w9 (.cells (c3 (.slice pa j qa) (.slice pb nl qb) (.slice pc nr qc)) 32)
        have S10 := Lib.hid (S9.out.below ba)
        have G10 : Hid (gM < (w9.alloc (.cells (c3 (.slice pa j qa) (.slice pb nl qb) (.slice pc nr qc)) 32)).heap.size) := S10.out.m.lt
        clear ho9 hc9 ba e0 e1 e2 e3 K1 K2 S9
        have e0 := S10.out.m.cell 0
        have e1 := S10.out.m.cell 1
        have e2 := S10.out.m.cell 2
        have e3 := S10.out.m.cell 3
        have f0 := S10.out.m.frozen 0
        have f1 := S10.out.m.frozen 1
        have f2 := S10.out.m.frozen 2
        have S11 := Lib.hid S10.out.heapStore
        go_wp2_with fail
        clear e0 e1 e2 e3 f0 f1 f2 S10
        generalize ((((w9.alloc (.cells (c3 (.slice pa j qa) (.slice pb nl qb) (.slice pc nr qc)) 32)).setCell ⟨gM, 0, none⟩ (.slice pa j qa)).setCell ⟨gM, 1, none⟩ (.slice pb nl qb)).setCell ⟨gM, 2, none⟩ (.slice pc nr qc)) = w10 at *
        have e0 := S11.out.m.cell 0
        have e1 := S11.out.m.cell 1
        have e2 := S11.out.m.cell 2
        have e3 := S11.out.m.cell 3
        have KS := keep_small HG.out (keptB es) j
        refine (s_l7Own _ _ _ _ (keepTo h (keptB es) j).1 es _ S11.out.own.heap S11.out.own.cols ⟨by rw [KS.2.1]; exact HG.out.n, by rw [KS.2.2.1]; exact HG.out.rn, by rw [KS.1]; exact HG.out.n, fun i _ => KS.2.2.2 i⟩ (by rw [HEN.out]; omega)).mono ?_
        rintro e w11 ⟨a9, b9, c9, d9, rfl, ho11, hb11⟩
        have S12 := Lib.hid (S11.out.below hb11); have O12 := Lib.hid ho11
        have L12 : Hid (w.heap.size + 1 < w10.heap.size) := (by unfold Hid; have := Row.lt S11.out.r; omega)
        obtain ⟨⟨ra, ta, e1'⟩, ⟨rb, tb, e2'⟩, ⟨rc, tc, e3'⟩, ⟨rd, td, e4'⟩⟩ := ho11.shapes
        subst e1' e2' e3' e4'
        have HR1 : Hid (r.1 = (keepTo h (keptB es) j).1) := (by unfold Hid; rw [HRR.out])
        have HR2 : Hid (r.2.1 = es) := (by unfold Hid; rw [HRR.out])
        have HR3 : Hid ((r.2.2 : Int) = ((keepTo h (keptB es) j).2 : Int)) := (by unfold Hid; rw [HRR.out])
        clear ho11 hb11 KS e0 e1 e2 e3
        generalize (keepTo h (keptB es) j).2 = kn at *
        generalize (keepTo h (keptB es) j).1 = hK at *
        generalize hK.f.length = n1 at *
        generalize hK.l.length = n2 at *
        generalize hK.r.length = n3 at *
        generalize es.length = n4 at *
        go_wp2_with (refine wl_storeM rfl _ _ rfl (w.heap.size + 1) (.slice ra n1 ta) (.slice rb n2 tb) (.slice rc n3 tc) (.slice rd n4 td) _ _ _ _ S12.out.r rfl rfl rfl rfl rfl rfl ?_)
        refine bodyPost_ret (res_row_slot2 Try.results38 (Row.put S12.out.r (m4 (.slice ra n1 ta) (.slice rb n2 tb) (.slice rc n3 tc) (.slice rd n4 td))) rfl rfl rfl Try.underlying34 rfl info_marking) rfl (endMI_yes (below_setRow S12.out.l (by omega) _) (O12.out.whole (w.heap.size + 1) L12.out _) (by have := L12.out; omega) (by rw [size_setRow]; exact Nat.le_refl _) HR1.out HR2.out HR3.out rfl)
  · skip
    have e0 := ST.out.m.cell 0
    have e1 := ST.out.m.cell 1
    have e2 := ST.out.m.cell 2
    have e3 := ST.out.m.cell 3
    have HIN : Hid (∀ z ∈ h.r, inR nf z) := fun z hz => (refs_bound HG.out HG.out.rr z hz).imp id (fun q => ⟨q.1, by rw [← HF.out]; exact q.2.1⟩)
    go_wp2_with fail
    clear e0 e1 e2 e3
    generalize hgM : w2.heap.size = gM at *
    clear hgM
    generalize hw3 : (w2.alloc (.cells (m4 (.slice pa nf qa) (.slice pb nl qb) (.slice pc nr qc) (.slice pd nf qd)) 34)) = w3 at *
    clear hw3
    go_loopw [26] (fun i wr => ∃ j : Nat, j ≤ nr ∧ i = .int .i64 j ∧ Hid (EndSt w wr gM lo gM (.slice pa nf qa) (.slice pb nl qb) (.slice pc nr qc) (.slice pd nf qd) h (shades cs (h.r.take j)))) (fun i _ => nr - (intOf i).toNat)
    case atStart => exact ⟨0, Nat.zero_le _, rfl, by rw [List.take_zero, shades_nil]; exact ST⟩
    case round =>
      obtain ⟨j, hj, rfl, hst⟩ := hrel
      have hnr := HNR.out
      by_cases hlt : j < nr
      · obtain ⟨zb, zo, rfl, hcz⟩ := hst.out.own.heap.r.at' (by omega)
        have q := hcz j hlt
        have hjl : j < h.r.length := by rw [HR.out]; exact hlt
        have hin := HIN.out (h.r.getD j 0) (by rw [List.getD, List.getElem?_eq_getElem hjl]; exact List.getElem_mem hjl)
        have HS := Lib.hid (shades_take_succ (cs := cs) hjl)
        have HZ : Hid (h.r.getD j 0 < ((shades cs (h.r.take j)).length : Int)) := by unfold Hid; rw [shades_len, HLC.out]; rcases hin with h | h <;> omega
        have j1 : (j : Int) < (nr : Int) := by omega
        have j0 : (0 : Int) ≤ (j : Int) := by omega
        clear hcz hjl hin
        generalize h.r.getD j 0 = z at *
        have e3 := hst.out.m.cell 3
        go_wp2_with fail
        obtain ⟨l1, h1, l2, h2, k1, k2, _⟩ := hst.out.own
        refine (s_l6Shade _ _ z l2 wr k2.own HZ.out).mono ?_
        rintro e w6 ⟨rfl, ho6, hg6⟩
        have S6 := Lib.hid (hst.out.setC hg6 (own_any ho6))
        clear ho6 hg6 q k1 k2 e3
        go_wp2_with fail
        go_roundw
        case rel => exact ⟨j + 1, by omega, by go_num, by rw [HS.out]; exact S6⟩
        case measure => simp [intOf]; omega
      obtain rfl : nr = j := by omega
      have HTK : Hid (h.r.take nr = h.r) := List.take_of_length_le (by rw [HR.out]; exact Nat.le_refl _)
      rw [HTK.out] at hst
      have HL0' : (shades cs h.r).length = nf := by rw [shades_len]; exact HLC.out
      have HCC : Hid (Col (shades cs h.r)) := HCOL.out.shades
      have HC0 : Hid (cols0 h cs true = shades cs h.r) := rfl
      generalize shades cs h.r = c9 at *
      have e0 := hst.out.m.cell 0
      have e1 := hst.out.m.cell 1
      have e2 := hst.out.m.cell 2
      have e3 := hst.out.m.cell 3
      go_wp2_with fail
      clear e0 e1 e2 e3
      have HL0 : Hid (c9.length = nf) := HL0'
      have HBN : Hid (∀ n, bothB h (finN h c9 n) = true) := fun n => bothB_iff.2 ⟨HG.out, by rw [finN_len, HL0.out, HF.out], HCC.out.finN n⟩
      have HBS : Hid (∀ n, ofC (finN h c9 n) 1 ≠ [] → blk (finN h c9 (n + 1)) nf = blk (finN h c9 n) nf + 1) := fun n q => by have := blk_scanF (h := h) (cs := finN h c9 n) (by rw [finN_len, HL0.out, HF.out]) q; rw [HF.out] at this; exact this
      have HBL : Hid (∀ n, blk (finN h c9 n) nf ≤ nf) := fun n => blk_le _ _
      go_loopg [] 13 (fun k wr => ∃ n : Nat, Hid (k + n = 13) ∧ n ≤ 12 ∧ Hid (n ≤ blk (finN h c9 n) nf) ∧ Hid (EndSt w wr gM lo gM (.slice pa nf qa) (.slice pb nl qb) (.slice pc nr qc) (.slice pd nf qd) h (finN h c9 n)) ∧ Hid (gM < wr.heap.size))
      case atStart => exact ⟨0, rfl, by omega, Nat.zero_le _, hst, hst.out.m.lt⟩
      case round =>
        obtain ⟨n, hk, hn12, hnb, hst, hgw⟩ := hrel
        have e0 := hst.out.m.cell 0
        have e1 := hst.out.m.cell 1
        have e2 := hst.out.m.cell 2
        have e3 := hst.out.m.cell 3
        go_wp2_with fail
        refine (s_l7Scan lo gM (.slice pa nf qa) (.slice pb nl qb) (.slice pc nr qc) (.slice pd nf qd) h (finN h c9 n) 0 _ hst.out.own (HBN.out n) (by omega) (by have := hgw.out; omega)).mono ?_
        rintro e w5 ⟨rfl, ho5, hc5⟩
        have S5 : Hid (EndSt w w5 gM lo gM (.slice pa nf qa) (.slice pb nl qb) (.slice pc nr qc) (.slice pd nf qd) h (finN h c9 (n + 1))) := hst.out.chg ho5 hc5
        have G5 : Hid (gM < w5.heap.size) := Nat.lt_of_lt_of_le hgw.out hc5.size
        clear ho5 hc5 e0 e1 e2 e3
        have HX : Hid ((!(ofC (finN h c9 n) 1).isEmpty) = true → ofC (finN h c9 n) 1 ≠ []) := fun q q' => by rw [q'] at q; cases q
        have HX0 : Hid ((!(ofC (finN h c9 n) 1).isEmpty) = false → ofC (finN h c9 n) 1 = []) := fun q => by cases hq : ofC (finN h c9 n) 1 with
          | nil => rfl
          | cons _ _ => rw [hq] at q; cases q
        generalize (!(ofC (finN h c9 n) 1).isEmpty) = x at *
        cases x
        rotate_left
        · have hq := HX.out rfl
          have h1 := HBS.out n hq
          have h2 := HBL.out (n + 1)
          have HN1 : Hid (n + 1 ≤ blk (finN h c9 (n + 1)) nf) := (by unfold Hid; have := hnb.out; omega)
          have hn13 : n + 1 ≤ 12 := by have := HNF.out; have := HN1.out; omega
          clear hq h1 h2 HX HX0
          go_wp2_with fail
          go_roundg (12 - n)
          case measure => have := hk.out; omega
          case rel => exact ⟨n + 1, by unfold Hid; omega, hn13, HN1, S5, G5⟩
        have hq := HX0.out rfl
        have HFIN : Hid (finC h c9 = finN h c9 n) := finC_stop hq hn12
        have S6 : Hid (EndSt w w5 gM lo gM (.slice pa nf qa) (.slice pb nl qb) (.slice pc nr qc) (.slice pd nf qd) h (finN h c9 n)) := (by { have e1 : finN h c9 (n + 1) = finN h c9 n := scanF_no hq; rw [e1] at S5; exact S5 })
        have HEN : Hid ((finN h c9 n).length = nf) := (by unfold Hid; rw [finN_len]; exact HL0.out)
        have HRR : Hid (r = ((keepTo h (keptB (finN h c9 n)) nf).1, finN h c9 n, (keepTo h (keptB (finN h c9 n)) nf).2)) := (by { unfold Hid; have h1 := HE.out; unfold endC7 at h1; rw [HC0.out, HFIN.out] at h1; exact h1 })
        clear hq HX HX0 HFIN S5 hst hnb hk
        generalize finN h c9 n = es at *
        have e0 := S6.out.m.cell 0
        have e1 := S6.out.m.cell 1
        have e2 := S6.out.m.cell 2
        have e3 := S6.out.m.cell 3
        have HS := Lib.hid (fun j => keptTo_set (cs := es) (j := j)); have HL := Lib.hid (fun j => keptTo_len (cs := es) (j := j)); have H0 := Lib.hid (keptTo_zero es); have HAL := Lib.hid (keptTo_all es)
        rw [HEN.out] at HS HL H0 HAL
        go_wp2_with (at_make; refine wpList_make_full _ rfl _ _ 23 rfl w5.heap.size 4 i0 (.bool false) 1 Try.underlying23 hi0 hz0 hz1 .i64 .i64 _ _ nf rfl rfl rfl rfl (by rw [hz2]; have := HNF.out; omega) (by have := HNF.out; unfold maxLen; omega) (by omega) ?_; intro w6 hown hgr
                     rw [rep_bools] at hown
                     have O6 : Hid (OwnBs w6 w5.heap.size (.slice (some ⟨w5.heap.size, 0, none⟩) nf nf) (keptTo es 0)) := (by { unfold Hid OwnBs; rw [H0.out, List.length_replicate]; exact hown })
                     have S7 : Hid (EndSt w w6 gM lo gM (.slice pa nf qa) (.slice pb nl qb) (.slice pc nr qc) (.slice pd nf qd) h es) := S6.out.below ((Below.refl w5.heap.size w5).grown hgr (Nat.le_refl _) (fun k hk => by cases hk))
                     clear hown hgr
                     have f3 := S7.out.m.cell 3)
        clear e0 e1 e2 e3 f3
        generalize w5.heap.size = gk at *
        go_loopw [44] (fun i wr => ∃ j : Nat, j ≤ nf ∧ i = .int .i64 j ∧ Hid (OwnBs wr gk (.slice (some ⟨gk, 0, none⟩) nf nf) (keptTo es j)) ∧ Hid (EndSt w wr gM lo gM (.slice pa nf qa) (.slice pb nl qb) (.slice pc nr qc) (.slice pd nf qd) h es)) (fun i _ => nf - (intOf i).toNat)
        case atStart => exact ⟨0, Nat.zero_le _, rfl, O6, S7⟩
        case round =>
          obtain ⟨j, hj, rfl, ho, hst⟩ := hrel
          have hnf := HNF.out
          by_cases hlt : j < nf
          · obtain ⟨g, off, rfl, hc⟩ := hst.out.own.cols.at' (by omega)
            have q := hc j hlt
            obtain ⟨s1, s2, s3, s4⟩ := ho.out.stored (HL.out j hj) hlt (decide (es.getD j 0 ≠ 0))
            rw [HS.out j hlt] at s1
            have S1 := Lib.hid s1
            have S2 := Lib.hid (hst.out.far G5.out s2)
            have i1 : (j : Int) < (nf : Int) := by omega
            have i2 : (0 : Int) ≤ (j : Int) := by omega
            rw [← ne_zero_dec] at S1 S2
            clear hc s1 s2
            generalize es.getD j 0 = z at *
            generalize (keptTo es j).getD j false = y at *
            go_wp2
            go_roundw
            case rel => exact ⟨j + 1, by omega, by go_num, S1, S2⟩
            case measure => simp [intOf]; omega
          obtain rfl : j = nf := by omega
          rw [HAL.out] at ho
          obtain ⟨l1, h1, l2, h2, k1, k2, q1, q2, q3, q4, q5⟩ := hst.out.own
          have K1 := Lib.hid k1; have K2 := Lib.hid k2; have QQ := Lib.hid (And.intro q1 (And.intro q2 (And.intro q3 (And.intro q4 q5))))
          clear k1 k2
          have e0 := hst.out.m.cell 0
          have e1 := hst.out.m.cell 1
          have e2 := hst.out.m.cell 2
          have e3 := hst.out.m.cell 3
          go_wp2_with fail
          refine (s_l5Keep _ _ _ _ h (keptB es) l1 h1 _ K1.out (owns_mono ho.out fun g hg => by have := (owns_lt ho.out hg).1; have := G5.out; have := QQ.out; omega) (by have := Row.lt hst.out.m; have := QQ.out; omega) (by rw [HG.out.ll]) (by rw [keptB_len, HEN.out, HF.out]) HG.out.n).mono ?_
          rintro e w9 ⟨rfl, ho9, hc9⟩
          rw [HF.out] at ho9 ⊢
          have S9 : Hid (EndSt w w9 gM lo gM (.slice pa j qa) (.slice pb nl qb) (.slice pc nr qc) (.slice pd j qd) (keepTo h (keptB es) j).1 es) := hst.out.chg ⟨l1, h1, l2, h2, ho9, OwnH.chg K2.out hc9 (by have := QQ.out; omega), QQ.out⟩ (hc9.wide (by have := QQ.out; omega) (by have := QQ.out; omega))
          have ba := below1 w9 (.cells (c3 (.slice pa j qa) (.slice pb nl qb) (.slice pc nr qc)) 32)
          have S10 := Lib.hid (S9.out.below ba)
          have G10 : Hid (gM < (w9.alloc (.cells (c3 (.slice pa j qa) (.slice pb nl qb) (.slice pc nr qc)) 32)).heap.size) := S10.out.m.lt
          clear ho9 hc9 ba e0 e1 e2 e3 K1 K2 S9
          have e0 := S10.out.m.cell 0
          have e1 := S10.out.m.cell 1
          have e2 := S10.out.m.cell 2
          have e3 := S10.out.m.cell 3
          have f0 := S10.out.m.frozen 0
          have f1 := S10.out.m.frozen 1
          have f2 := S10.out.m.frozen 2
          have S11 := Lib.hid S10.out.heapStore
          go_wp2_with fail
          clear e0 e1 e2 e3 f0 f1 f2 S10
          generalize ((((w9.alloc (.cells (c3 (.slice pa j qa) (.slice pb nl qb) (.slice pc nr qc)) 32)).setCell ⟨gM, 0, none⟩ (.slice pa j qa)).setCell ⟨gM, 1, none⟩ (.slice pb nl qb)).setCell ⟨gM, 2, none⟩ (.slice pc nr qc)) = w10 at *
          have e0 := S11.out.m.cell 0
          have e1 := S11.out.m.cell 1
          have e2 := S11.out.m.cell 2
          have e3 := S11.out.m.cell 3
          have KS := keep_small HG.out (keptB es) j
          refine (s_l7Own _ _ _ _ (keepTo h (keptB es) j).1 es _ S11.out.own.heap S11.out.own.cols ⟨by rw [KS.2.1]; exact HG.out.n, by rw [KS.2.2.1]; exact HG.out.rn, by rw [KS.1]; exact HG.out.n, fun i _ => KS.2.2.2 i⟩ (by rw [HEN.out]; omega)).mono ?_
          rintro e w11 ⟨a9, b9, c9, d9, rfl, ho11, hb11⟩
          have S12 := Lib.hid (S11.out.below hb11); have O12 := Lib.hid ho11
          have L12 : Hid (w.heap.size + 1 < w10.heap.size) := (by unfold Hid; have := Row.lt S11.out.r; omega)
          obtain ⟨⟨ra, ta, e1'⟩, ⟨rb, tb, e2'⟩, ⟨rc, tc, e3'⟩, ⟨rd, td, e4'⟩⟩ := ho11.shapes
          subst e1' e2' e3' e4'
          have HR1 : Hid (r.1 = (keepTo h (keptB es) j).1) := (by unfold Hid; rw [HRR.out])
          have HR2 : Hid (r.2.1 = es) := (by unfold Hid; rw [HRR.out])
          have HR3 : Hid ((r.2.2 : Int) = ((keepTo h (keptB es) j).2 : Int)) := (by unfold Hid; rw [HRR.out])
          clear ho11 hb11 KS e0 e1 e2 e3
          generalize (keepTo h (keptB es) j).2 = kn at *
          generalize (keepTo h (keptB es) j).1 = hK at *
          generalize hK.f.length = n1 at *
          generalize hK.l.length = n2 at *
          generalize hK.r.length = n3 at *
          generalize es.length = n4 at *
          go_wp2_with (refine wl_storeM rfl _ _ rfl (w.heap.size + 1) (.slice ra n1 ta) (.slice rb n2 tb) (.slice rc n3 tc) (.slice rd n4 td) _ _ _ _ S12.out.r rfl rfl rfl rfl rfl rfl ?_)
          refine bodyPost_ret (res_row_slot2 Try.results38 (Row.put S12.out.r (m4 (.slice ra n1 ta) (.slice rb n2 tb) (.slice rc n3 tc) (.slice rd n4 td))) rfl rfl rfl Try.underlying34 rfl info_marking) rfl (endMI_yes (below_setRow S12.out.l (by omega) _) (O12.out.whole (w.heap.size + 1) L12.out _) (by have := L12.out; omega) (by rw [size_setRow]; exact Nat.le_refl _) HR1.out HR2.out HR3.out rfl)
end Go.Proofs.Ytdagkbgobnaijaa
namespace Go.Proofs.Ytdagkbgobnaijaa
open Go.RowKit Ph

/-- A world's blocks below a bound. -/
def cutW (x : World) (m : Nat) : World := {x with heap := x.heap.extract 0 m}
theorem cutW_size {x : World} {m : Nat} (hm : m ≤ x.heap.size) : (cutW x m).heap.size = m := by simp [cutW]; omega
theorem cutW_block {x : World} {m i : Nat} (hi : i < m) : (cutW x m).heap[i]? = x.heap[i]? := by
  simp only [cutW, Array.getElem?_extract]
  by_cases h : i < x.heap.size
  · rw [if_pos (by omega)]; simp
  · rw [if_neg (by omega), Array.getElem?_eq_none (by omega)]
theorem cutW_below {x : World} {m : Nat} (hm : m ≤ x.heap.size) : Below (cutW x m).heap.size (cutW x m) x := ⟨rfl, rfl, rfl, by rw [cutW_size hm]; exact hm, fun i hi => (cutW_block (by rw [cutW_size hm] at hi; exact hi)).symm⟩
theorem ne_row {w : World} {B g : Nat} {T : TypeId} {v : Value} {cs : List Int} {ds : Array Value} (ho : Own w B v cs) (hr : Row w g T ds) (hT : T ≠ 3) : v.ownBlock ≠ some g := by
  intro hg
  rcases ho.2 with ⟨rfl, _⟩ | ⟨g2, cap, cur, rfl, _, h2, _⟩
  · cases hg
  · cases hg
    unfold Row at hr
    rw [h2] at hr
    simp only [Option.some.injEq, Obj.cells.injEq] at hr
    exact hT hr.2.1.symm
theorem rows_ne {w : World} {g g' : Nat} {T T' : TypeId} {cs cs' : Array Value} (h : Row w g T cs) (h' : Row w g' T' cs') (hT : T ≠ T') : g ≠ g' := by
  intro e
  subst e
  unfold Row at h h'
  rw [h] at h'
  simp only [Option.some.injEq, Obj.cells.injEq] at h'
  exact hT h'.2.1
theorem info_marker7 : (Try.prog.info? 97).map (·.size) = some 5 := by kernel_rfl
/-- What is the call's own while a marking ends: a heap, and colours in a block behind it. -/
structure Fin1 (w x : World) (l1 m : Nat) (a b c d : Value) (h : H) (cs : List Int) : Prop where
  heap : OwnH x l1 m a b c h
  col : Own x m d cs
  r : RowM x (w.heap.size + 1) nilS nilS nilS nilS
  l : Below w.heap.size w x
  q : w.heap.size + 2 ≤ l1 ∧ l1 ≤ m ∧ m ≤ x.heap.size
section
variable {w x y : World} {l1 m g : Nat} {a b c d : Value} {h : H} {cs cs' : List Int}
theorem Fin1.below (k : Fin1 w x l1 m a b c d h cs) (hb : Below x.heap.size x y) : Fin1 w y l1 m a b c d h cs := ⟨k.heap.below hb, k.col.below hb, Row.below k.r hb, bst k.l hb k.l.size, k.q.1, k.q.2.1, Nat.le_trans k.q.2.2 hb.size⟩
theorem Fin1.setC (k : Fin1 w x l1 m a b c d h cs) (hg : x.grownBy y d.ownBlock) (ho : Own y m d cs') : Fin1 w y l1 m a b c d h cs' := by
  have h1 : ∀ g, d.ownBlock = some g → m ≤ g := fun g e => (owns_lt k.col e).1
  have hq := k.q
  refine ⟨?_, ho, Row.grownBy k.r hg (fun e => by have := h1 _ e; omega), k.l.grown hg k.l.size (fun g e => by have := h1 g e; omega), hq.1, hq.2.1, Nat.le_trans hq.2.2 hg.size⟩
  obtain ⟨us, hf⟩ := k.heap
  exact ⟨us, hf.keep fun g _ g2 g3 => hg.block g g3 (fun e => by have := h1 g e.symm; omega)⟩
/-- A row of its own is stored whole. -/
theorem Fin1.row {T : TypeId} {cs0 ds : Array Value} (k : Fin1 w x l1 m a b c d h cs) (hr : Row x g T cs0) (hT : T ≠ 3) (hp : g < l1 ∨ m ≤ g) (hw : w.heap.size + 1 < g) : Fin1 w (x.setRow g ds) l1 m a b c d h cs := by
  have hq := k.q
  refine ⟨?_, owns_block k.col fun g' e => setRow_other x g g' ds (fun q => ne_row k.col hr hT (by rw [e, q])), Row.putOther k.r ds (by omega), below_setRow k.l (by omega) ds, hq.1, hq.2.1, by rw [size_setRow]; exact hq.2.2⟩
  obtain ⟨us, hf⟩ := k.heap
  exact ⟨us, hf.keep fun g' _ g2 _ => setRow_other x g g' ds (by omega)⟩
/-- What a call leaves that writes the colours' block and one cell's block beyond. -/
theorem Fin1.fin {gu : Nat} (k : Fin1 w x l1 m a b c d h cs) (hb : Below (cutW x m).heap.size (cutW x m) y) (ho : Own y (cutW x m).heap.size d cs') (hf : ∀ i, i < x.heap.size → d.ownBlock ≠ some i → i ≠ gu → y.heap[i]? = x.heap[i]?) (hu : m ≤ gu) (hs : x.heap.size ≤ y.heap.size) : Fin1 w y l1 m a b c d h cs' := by
  have hq := k.q
  have h1 : ∀ g, d.ownBlock = some g → m ≤ g := fun g e => (owns_lt k.col e).1
  rw [cutW_size hq.2.2] at ho
  have hl := k.l
  have hr := Row.lt k.r
  refine ⟨?_, ho, (hf _ hr (fun e => by have := h1 _ e; omega) (by omega)).trans k.r, ⟨hb.os.trans hl.os, hb.tape.trans hl.tape, hb.output.trans hl.output, by have := hl.size; omega, fun i hi => (hf i (by omega) (fun e => by have := h1 _ e; omega) (by omega)).trans (hl.block i hi)⟩, hq.1, hq.2.1, Nat.le_trans hq.2.2 hs⟩
  obtain ⟨us, hfm⟩ := k.heap
  exact ⟨us, hfm.keep fun g g1 g2 g3 => hf g g3 (fun e => by have := h1 g e; omega) (by omega)⟩
theorem Fin1.chgH {h' : H} (k : Fin1 w x l1 m a b c d h cs) (ho : OwnH y l1 m a b c h') (hc : Chg l1 m x y) : Fin1 w y l1 m a b c d h' cs :=
  have hq := k.q
  ⟨ho, owns_block k.col fun g e => hc.block g (owns_lt k.col e).2 (.inr (owns_lt k.col e).1), Row.chg k.r hc (.inl (by omega)), below_chg k.l hc (by omega) k.l.size, hq.1, hq.2.1, Nat.le_trans hq.2.2 hc.size⟩
theorem Fin1.wheap (k : Fin1 w x l1 m a b c d h cs) : OwnH (cutW x m) l1 m a b c h := by
  obtain ⟨us, hfm⟩ := k.heap
  exact ⟨us, hfm.keep fun g _ g2 _ => cutW_block g2⟩
end
set_option maxHeartbeats 12800000 in
set_option maxRecDepth 100000 in
theorem c_EndMarking (a b c d : Value) (h : H) (cs : List Int) (put : Bool) (w : World) (hA : HeapAt w a b c h) (hC : IntsAt w d cs) : Calls Try.prog 39 #[mv a b c d, .bool put] w (EndMI (endM h cs put).1 (endM h cs put).2.1 ((endM h cs put).2.2 : Int) (bothB h cs) w) := by
  have hb0 := (below1 w (.cells (m4 a b c d) 34)).alloc (by simp) (.cells (m4 nilS nilS nilS nilS) 34)
  have A0 := Lib.hid (hA.below hb0); have Z0 := Lib.hid (hC.below hb0)
  have HB := Lib.hid hb0
  have P0 := Lib.hid (show RowM _ w.heap.size a b c d from (Row.new w 34 (m4 a b c d)).alloc (.cells (m4 nilS nilS nilS nilS) 34))
  have R0 := Lib.hid (show RowM _ (w.heap.size + 1) nilS nilS nilS nilS from Row.new1 w (.cells (m4 a b c d) 34) 34 (m4 nilS nilS nilS nilS))
  have AW := Lib.hid hA; have ZW := Lib.hid hC
  clear hA hC hb0
  have HC := Lib.hid (c_GoodMarking a b c d h cs _ A0.out Z0.out)
  have EN := Lib.hid (fun q => Ph.endM_no (h := h) (cs := cs) put q); have EY := Lib.hid (fun q => Ph.endM_yes (h := h) (cs := cs) put q)
  have BI := Lib.hid (bothB_iff (h := h) (cs := cs)).1
  generalize endM h cs put = r at *
  generalize hbb : bothB h cs = x at *
  clear hbb
  have c0 := P0.out.cell 0
  have c1 := P0.out.cell 1
  have c2 := P0.out.cell 2
  have c3 := P0.out.cell 3
  cases x
  · have HE := Lib.hid (EN.out rfl)
    go_enter Try.func39, Try.ntmps39
    go_wp2_with (first
      | (go_at_call 81; refine HC.out.mono ?_; rintro e w1 ⟨rfl, hb1⟩; have B1 := Lib.hid (bst HB.out hb1 HB.out.size); have R1 := Lib.hid (show RowM _ _ _ _ _ _ from Row.below R0.out hb1); clear hb1)
      | (refine wl_storeM rfl _ _ rfl (w.heap.size + 1) nilS nilS nilS nilS _ _ _ _ R1.out rfl rfl rfl rfl rfl rfl ?_))
    refine bodyPost_ret (res_row_slot2 Try.results39 (Row.put R1.out (m4 nilS nilS nilS nilS)) rfl rfl rfl Try.underlying34 rfl info_marking) rfl (endMI_none (below_setRow B1.out (by omega) _) (by rw [HE.out]) (by rw [HE.out]) (by rw [HE.out]; rfl) rfl)
  obtain ⟨hG, hlc, hcol⟩ := BI.out rfl
  have HE := Lib.hid (EY.out rfl)
  have HG := Lib.hid hG; have HLC := Lib.hid hlc; have HCOL := Lib.hid hcol
  clear hG hlc hcol EN EY BI
  go_enter Try.func39, Try.ntmps39
  go_wp2_with (go_at_call 81; refine HC.out.mono ?_; rintro e w1 ⟨rfl, hb1⟩; have B1 := Lib.hid (bst HB.out hb1 HB.out.size); have R1 := Lib.hid (show RowM _ _ _ _ _ _ from Row.below R0.out hb1); have P1 := Lib.hid (show RowM _ _ _ _ _ _ from Row.below P0.out hb1); clear hb1)
  have B2 := Lib.hid (below_drew B1.out); have R2 : Hid (RowM w1.drew (w.heap.size + 1) nilS nilS nilS nilS) := R1.out; have P2 : Hid (RowM w1.drew w.heap.size a b c d) := P1.out
  clear c0 c1 c2 c3 A0 Z0 P0 R0 HC B1 R1 P1
  have X2 : Hid (w.heap.size + 2 ≤ w1.drew.heap.size) := R2.out.lt
  go_cut [7] from 14 (fun p wc => ∃ (gM l1 m : Nat) (pa : Option Addr) (qa : Nat) (pb : Option Addr) (qb : Nat) (pc : Option Addr) (qc : Nat) (pd : Option Addr) (qd : Nat), p = .pointer (some ⟨gM, 0, none⟩) ∧ Hid (Fin1 w wc l1 m (.slice pa h.f.length qa) (.slice pb h.l.length qb) (.slice pc h.r.length qc) (.slice pd cs.length qd) h cs) ∧ Hid (RowM wc gM (.slice pa h.f.length qa) (.slice pb h.l.length qb) (.slice pc h.r.length qc) (.slice pd cs.length qd)) ∧ Hid (gM < l1 ∨ m ≤ gM) ∧ Hid (w.heap.size + 1 < gM))
  case first =>
    refine wp_region_held_drew (S := (fun w' => w'.cell? ⟨w.heap.size, 0, none⟩ = some a ∧ w'.cell? ⟨w.heap.size, 1, none⟩ = some b ∧ w'.cell? ⟨w.heap.size, 2, none⟩ = some c ∧ w'.cell? ⟨w.heap.size, 3, none⟩ = some d)) (by kernel_rfl) (⟨P2.out.cell 0, P2.out.cell 1, P2.out.cell 2, P2.out.cell 3⟩) (fun hHeld => ?_)
    generalize w1.drew = x0 at *
    refine wpAnyH_take (i := 0) (v := ?va0x1) rfl (by kernel_rfl) (by kernel_rfl) (by kernel_rfl) (fun _ _ _ h => h) (Or.inl ⟨by rfl, ?hy0x1⟩) (by assumption) ?rest0x1
    case hy0x1 => (intro w hSw; (try dsimp only at hSw); go_simp; try with_reducible rfl)
    (try simp only [Act.put, List.getElem_toArray, List.getElem_cons_zero, List.setIfInBounds_toArray, List.set_cons_zero, List.set_cons_succ])
    refine wpAnyH_take (i := 1) (v := ?va1x2) rfl (by kernel_rfl) (by kernel_rfl) (by kernel_rfl) (fun _ _ _ h => h) (Or.inl ⟨by rfl, ?hy1x2⟩) (by assumption) ?rest1x2
    case hy1x2 => (intro w hSw; (try dsimp only at hSw); go_simp; try with_reducible rfl)
    (try simp only [Act.put, List.getElem_toArray, List.getElem_cons_zero, List.getElem_cons_succ, List.setIfInBounds_toArray, List.set_cons_zero, List.set_cons_succ])
    refine wpAnyH_take (i := 3) (v := ?va3x3) rfl (by kernel_rfl) (by kernel_rfl) (by kernel_rfl) (fun _ _ _ h => h) (Or.inl ⟨by rfl, ?hy3x3⟩) (by assumption) ?rest3x3
    case hy3x3 => (intro w hSw; (try dsimp only at hSw); go_simp; try with_reducible rfl)
    (try simp only [Act.put, List.getElem_toArray, List.getElem_cons_zero, List.getElem_cons_succ, List.setIfInBounds_toArray, List.set_cons_zero, List.set_cons_succ])
    refine wpAnyH_take (i := 4) (v := ?va4x4) rfl (by kernel_rfl) (by kernel_rfl) (by kernel_rfl) (fun _ _ _ h => h) (Or.inl ⟨by rfl, ?hy4x4⟩) (by assumption) ?rest4x4
    case hy4x4 => (intro w hSw; (try dsimp only at hSw); go_simp; try with_reducible rfl)
    (try simp only [Act.put, List.getElem_toArray, List.getElem_cons_zero, List.getElem_cons_succ, List.setIfInBounds_toArray, List.set_cons_zero, List.set_cons_succ])
    refine wpAnyH_ready (rs := [2, 7]) (by kernel_rfl) (by simp) ?_
    refine AllReadyH.cons rfl (fun K hK => ?_) (AllReadyH.cons rfl (fun K hK => ?_) AllReadyH.nil)
    · skip
      go_simp
      refine (c_copyHeap a b c h _ (AW.out.below B2.out) HG.out).mono ?_
      rintro e y1 ⟨a2, b2, c2, rfl, hoH, ba⟩
      have OH := Lib.hid hoH; clear hoH
      have B1y := Lib.hid (bst B2.out ba B2.out.size); have P1y := Lib.hid (show RowM y1 _ _ _ _ _ from Row.below P2.out ba); have R1y := Lib.hid (show RowM y1 _ _ _ _ _ from Row.below R2.out ba)
      have X1y : Hid (w.heap.size + 2 ≤ y1.heap.size) := Nat.le_trans X2.out ba.size
      have SH : Hid (x0.heap.size ≤ y1.heap.size) := ba.size
      have LO2 : Hid (w.heap.size + 2 ≤ x0.heap.size) := X2.out
      have SM : Hid (y1.heap.size ≤ y1.heap.size) := Nat.le_refl _
      refine hK.out _ _ (⟨P1y.out.cell 0, P1y.out.cell 1, P1y.out.cell 2, P1y.out.cell 3⟩) (fun hHeld => ?_)
      clear hK K ba
      (try simp only [Act.put, List.getElem_toArray, List.getElem_cons_zero, List.getElem_cons_succ, List.setIfInBounds_toArray, List.set_cons_zero, List.set_cons_succ])
      refine wpAnyH_ready (rs := [5, 7]) (by kernel_rfl) (by simp) ?_
      refine AllReadyH.cons rfl (fun K hK => ?_) (AllReadyH.cons rfl (fun K hK => ?_) AllReadyH.nil)
      · skip
        go_simp
        refine (c_copyInts d cs _ (ZW.out.below B1y.out) (by have := HG.out.n; have := HLC.out; omega)).mono ?_
        rintro e y2 ⟨d2, rfl, hoC, ba⟩
        have OC := Lib.hid (Own.mono hoC SM.out); clear hoC
        have B2y := Lib.hid (bst B1y.out ba B1y.out.size); have P2y := Lib.hid (show RowM y2 _ _ _ _ _ from Row.below P1y.out ba); have R2y := Lib.hid (show RowM y2 _ _ _ _ _ from Row.below R1y.out ba)
        have X2y : Hid (w.heap.size + 2 ≤ y2.heap.size) := Nat.le_trans X1y.out ba.size
        replace OH := Lib.hid (OH.out.below ba)
        replace SM : Hid (y1.heap.size ≤ y2.heap.size) := Nat.le_trans SM.out ba.size
        refine hK.out _ _ (⟨P2y.out.cell 0, P2y.out.cell 1, P2y.out.cell 2, P2y.out.cell 3⟩) (fun hHeld => ?_)
        clear hK K ba
        (try simp only [Act.put, List.getElem_toArray, List.getElem_cons_zero, List.getElem_cons_succ, List.setIfInBounds_toArray, List.set_cons_zero, List.set_cons_succ])
        obtain ⟨⟨pa, qa, e1⟩, ⟨pb, qb, e2⟩, ⟨pc, qc, e3⟩⟩ := OH.out.shapes
        obtain ⟨pd, qd, e4⟩ := OC.out.ints.shape
        subst e1 e2 e3 e4
        refine wpAnyH_take (i := 6) (v := ?va6x5) rfl (by kernel_rfl) (by kernel_rfl) (by kernel_rfl) (fun _ _ _ h => h) (Or.inl ⟨by rfl, ?hy6x5⟩) (by assumption) ?rest6x5
        case hy6x5 => (intro w hSw; (try dsimp only at hSw); go_simp; try with_reducible rfl)
        (try simp only [Act.put, List.getElem_toArray, List.getElem_cons_zero, List.getElem_cons_succ, List.setIfInBounds_toArray, List.set_cons_zero, List.set_cons_succ])
        refine wpAnyH_ready (rs := [7]) (by kernel_rfl) (by simp) ?_
        refine AllReadyH.cons rfl (fun K hK => ?_) AllReadyH.nil
        have ba := below1 y2 (.cells (m4 nilS nilS nilS nilS) 34)
        go_simp
        have B3y := Lib.hid (bst B2y.out ba B2y.out.size); have P3y := Lib.hid (show RowM (y2.alloc (.cells (m4 nilS nilS nilS nilS) 34)) _ _ _ _ _ from Row.below P2y.out ba); have R3y := Lib.hid (show RowM (y2.alloc (.cells (m4 nilS nilS nilS nilS) 34)) _ _ _ _ _ from Row.below R2y.out ba)
        have X3y : Hid (w.heap.size + 2 ≤ (y2.alloc (.cells (m4 nilS nilS nilS nilS) 34)).heap.size) := Nat.le_trans X2y.out ba.size
        replace OH := Lib.hid (OH.out.below ba)
        have GPOS : Hid (y2.heap.size < x0.heap.size ∨ y1.heap.size ≤ y2.heap.size) := .inr SM.out
        replace SM : Hid (y1.heap.size ≤ (y2.alloc (.cells (m4 nilS nilS nilS nilS) 34)).heap.size) := Nat.le_trans SM.out ba.size
        replace OC := Lib.hid (OC.out.below ba)
        have M3 := Lib.hid (show RowM _ y2.heap.size nilS nilS nilS nilS from Row.new y2 _ _)
        have GMW : Hid (w.heap.size + 1 < y2.heap.size) := X2y.out
        refine hK.out _ _ (⟨P3y.out.cell 0, P3y.out.cell 1, P3y.out.cell 2, P3y.out.cell 3⟩) (fun hHeld => ?_)
        clear hK K ba
        (try simp only [Act.put, List.getElem_toArray, List.getElem_cons_zero, List.getElem_cons_succ, List.setIfInBounds_toArray, List.set_cons_zero, List.set_cons_succ])
        generalize hg3 : y2.heap.size = g3 at *
        clear hg3
        generalize y2.alloc (.cells (m4 nilS nilS nilS nilS) 34) = y3 at *
        have FF : Hid (Fin1 w y3 x0.heap.size y1.heap.size (.slice pa h.f.length qa) (.slice pb h.l.length qb) (.slice pc h.r.length qc) (.slice pd cs.length qd) h cs) := ⟨OH.out, OC.out, R3y.out, B3y.out, LO2.out, SH.out, SM.out⟩
        have P9 := Lib.hid (show RowM _ w.heap.size a b c d from Row.putOther P3y.out (m4 (.slice pa h.f.length qa) (.slice pb h.l.length qb) (.slice pc h.r.length qc) (.slice pd cs.length qd)) (by have := GMW.out; omega : w.heap.size ≠ g3))
        have F9 : Hid (Fin1 w (y3.setRow g3 (m4 (.slice pa h.f.length qa) (.slice pb h.l.length qb) (.slice pc h.r.length qc) (.slice pd cs.length qd))) x0.heap.size y1.heap.size (.slice pa h.f.length qa) (.slice pb h.l.length qb) (.slice pc h.r.length qc) (.slice pd cs.length qd) h cs) := FF.out.row M3.out (by decide) GPOS.out GMW.out
        refine wpAnyH_ready (rs := [8]) (by kernel_rfl) (by simp) ?_
        refine AllReadyH.cons rfl (fun K hK => ?_) AllReadyH.nil
        refine wp_store_row 34 _ _ rfl g3 (m4 (.slice pa h.f.length qa) (.slice pb h.l.length qb) (.slice pc h.r.length qc) (.slice pd cs.length qd)) rfl rfl 34 _ M3.out info_marking rfl (by simp [Value.oneCell']) ?_
        refine hK.out _ _ ⟨P9.out.cell 0, P9.out.cell 1, P9.out.cell 2, P9.out.cell 3⟩ (fun hHeld => ?_)
        clear hK K
        (try simp only [Act.put, List.getElem_toArray, List.getElem_cons_zero, List.getElem_cons_succ])
        refine wpAnyH_done (by kernel_rfl) ?_ _
        go_wp2_with fail
        go_meet
        case rel => exact ⟨g3, x0.heap.size, y1.heap.size, pa, qa, pb, qb, pc, qc, pd, qd, rfl, F9, Row.put M3.out _, GPOS, GMW⟩
      · skip
        have ba := below1 y1 (.cells (m4 nilS nilS nilS nilS) 34)
        go_simp
        have B4y := Lib.hid (bst B1y.out ba B1y.out.size); have P4y := Lib.hid (show RowM (y1.alloc (.cells (m4 nilS nilS nilS nilS) 34)) _ _ _ _ _ from Row.below P1y.out ba); have R4y := Lib.hid (show RowM (y1.alloc (.cells (m4 nilS nilS nilS nilS) 34)) _ _ _ _ _ from Row.below R1y.out ba)
        have X4y : Hid (w.heap.size + 2 ≤ (y1.alloc (.cells (m4 nilS nilS nilS nilS) 34)).heap.size) := Nat.le_trans X1y.out ba.size
        replace OH := Lib.hid (OH.out.below ba)
        have GPOS : Hid (y1.heap.size < x0.heap.size ∨ y1.heap.size ≤ y1.heap.size) := .inr SM.out
        replace SM : Hid (y1.heap.size ≤ (y1.alloc (.cells (m4 nilS nilS nilS nilS) 34)).heap.size) := Nat.le_trans SM.out ba.size
        have M4 := Lib.hid (show RowM _ y1.heap.size nilS nilS nilS nilS from Row.new y1 _ _)
        have GMW : Hid (w.heap.size + 1 < y1.heap.size) := X1y.out
        refine hK.out _ _ (⟨P4y.out.cell 0, P4y.out.cell 1, P4y.out.cell 2, P4y.out.cell 3⟩) (fun hHeld => ?_)
        clear hK K ba
        (try simp only [Act.put, List.getElem_toArray, List.getElem_cons_zero, List.getElem_cons_succ, List.setIfInBounds_toArray, List.set_cons_zero, List.set_cons_succ])
        generalize hg4 : y1.heap.size = g4 at *
        clear hg4
        generalize y1.alloc (.cells (m4 nilS nilS nilS nilS) 34) = y4 at *
        refine wpAnyH_ready (rs := [5]) (by kernel_rfl) (by simp) ?_
        refine AllReadyH.cons rfl (fun K hK => ?_) AllReadyH.nil
        go_simp
        refine (c_copyInts d cs _ (ZW.out.below B4y.out) (by have := HG.out.n; have := HLC.out; omega)).mono ?_
        rintro e y5 ⟨d2, rfl, hoC, ba⟩
        have OC := Lib.hid (Own.mono hoC SM.out); clear hoC
        have B5y := Lib.hid (bst B4y.out ba B4y.out.size); have P5y := Lib.hid (show RowM y5 _ _ _ _ _ from Row.below P4y.out ba); have R5y := Lib.hid (show RowM y5 _ _ _ _ _ from Row.below R4y.out ba)
        have X5y : Hid (w.heap.size + 2 ≤ y5.heap.size) := Nat.le_trans X4y.out ba.size
        replace OH := Lib.hid (OH.out.below ba)
        replace SM : Hid (g4 ≤ y5.heap.size) := Nat.le_trans SM.out ba.size
        have M5 := Lib.hid (show RowM _ _ _ _ _ _ from Row.below M4.out ba)
        refine hK.out _ _ (⟨P5y.out.cell 0, P5y.out.cell 1, P5y.out.cell 2, P5y.out.cell 3⟩) (fun hHeld => ?_)
        clear hK K ba
        (try simp only [Act.put, List.getElem_toArray, List.getElem_cons_zero, List.getElem_cons_succ, List.setIfInBounds_toArray, List.set_cons_zero, List.set_cons_succ])
        obtain ⟨⟨pa, qa, e1⟩, ⟨pb, qb, e2⟩, ⟨pc, qc, e3⟩⟩ := OH.out.shapes
        obtain ⟨pd, qd, e4⟩ := OC.out.ints.shape
        subst e1 e2 e3 e4
        refine wpAnyH_take (i := 6) (v := ?va6x6) rfl (by kernel_rfl) (by kernel_rfl) (by kernel_rfl) (fun _ _ _ h => h) (Or.inl ⟨by rfl, ?hy6x6⟩) (by assumption) ?rest6x6
        case hy6x6 => (intro w hSw; (try dsimp only at hSw); go_simp; try with_reducible rfl)
        (try simp only [Act.put, List.getElem_toArray, List.getElem_cons_zero, List.getElem_cons_succ, List.setIfInBounds_toArray, List.set_cons_zero, List.set_cons_succ])
        have FF : Hid (Fin1 w y5 x0.heap.size g4 (.slice pa h.f.length qa) (.slice pb h.l.length qb) (.slice pc h.r.length qc) (.slice pd cs.length qd) h cs) := ⟨OH.out, OC.out, R5y.out, B5y.out, LO2.out, SH.out, SM.out⟩
        have P9 := Lib.hid (show RowM _ w.heap.size a b c d from Row.putOther P5y.out (m4 (.slice pa h.f.length qa) (.slice pb h.l.length qb) (.slice pc h.r.length qc) (.slice pd cs.length qd)) (by have := GMW.out; omega : w.heap.size ≠ g4))
        have F9 : Hid (Fin1 w (y5.setRow g4 (m4 (.slice pa h.f.length qa) (.slice pb h.l.length qb) (.slice pc h.r.length qc) (.slice pd cs.length qd))) x0.heap.size g4 (.slice pa h.f.length qa) (.slice pb h.l.length qb) (.slice pc h.r.length qc) (.slice pd cs.length qd) h cs) := FF.out.row M5.out (by decide) GPOS.out GMW.out
        refine wpAnyH_ready (rs := [8]) (by kernel_rfl) (by simp) ?_
        refine AllReadyH.cons rfl (fun K hK => ?_) AllReadyH.nil
        refine wp_store_row 34 _ _ rfl g4 (m4 (.slice pa h.f.length qa) (.slice pb h.l.length qb) (.slice pc h.r.length qc) (.slice pd cs.length qd)) rfl rfl 34 _ M5.out info_marking rfl (by simp [Value.oneCell']) ?_
        refine hK.out _ _ ⟨P9.out.cell 0, P9.out.cell 1, P9.out.cell 2, P9.out.cell 3⟩ (fun hHeld => ?_)
        clear hK K
        (try simp only [Act.put, List.getElem_toArray, List.getElem_cons_zero, List.getElem_cons_succ])
        refine wpAnyH_done (by kernel_rfl) ?_ _
        go_wp2_with fail
        go_meet
        case rel => exact ⟨g4, x0.heap.size, g4, pa, qa, pb, qb, pc, qc, pd, qd, rfl, F9, Row.put M5.out _, GPOS, GMW⟩
    · skip
      have ba := below1 x0 (.cells (m4 nilS nilS nilS nilS) 34)
      go_simp
      have B6y := Lib.hid (bst B2.out ba B2.out.size); have P6y := Lib.hid (show RowM (x0.alloc (.cells (m4 nilS nilS nilS nilS) 34)) _ _ _ _ _ from Row.below P2.out ba); have R6y := Lib.hid (show RowM (x0.alloc (.cells (m4 nilS nilS nilS nilS) 34)) _ _ _ _ _ from Row.below R2.out ba)
      have X6y : Hid (w.heap.size + 2 ≤ (x0.alloc (.cells (m4 nilS nilS nilS nilS) 34)).heap.size) := Nat.le_trans X2.out ba.size
      have M6 := Lib.hid (show RowM _ x0.heap.size nilS nilS nilS nilS from Row.new x0 _ _)
      have GMW : Hid (w.heap.size + 1 < x0.heap.size) := X2.out
      refine hK.out _ _ (⟨P6y.out.cell 0, P6y.out.cell 1, P6y.out.cell 2, P6y.out.cell 3⟩) (fun hHeld => ?_)
      clear hK K ba
      (try simp only [Act.put, List.getElem_toArray, List.getElem_cons_zero, List.getElem_cons_succ, List.setIfInBounds_toArray, List.set_cons_zero, List.set_cons_succ])
      generalize hg6 : x0.heap.size = g6 at *
      clear hg6
      generalize x0.alloc (.cells (m4 nilS nilS nilS nilS) 34) = y6 at *
      refine wpAnyH_ready (rs := [2]) (by kernel_rfl) (by simp) ?_
      refine AllReadyH.cons rfl (fun K hK => ?_) AllReadyH.nil
      go_simp
      refine (c_copyHeap a b c h _ (AW.out.below B6y.out) HG.out).mono ?_
      rintro e y7 ⟨a2, b2, c2, rfl, hoH, ba⟩
      have OH := Lib.hid hoH; clear hoH
      have B7y := Lib.hid (bst B6y.out ba B6y.out.size); have P7y := Lib.hid (show RowM y7 _ _ _ _ _ from Row.below P6y.out ba); have R7y := Lib.hid (show RowM y7 _ _ _ _ _ from Row.below R6y.out ba)
      have X7y : Hid (w.heap.size + 2 ≤ y7.heap.size) := Nat.le_trans X6y.out ba.size
      have SH : Hid (y6.heap.size ≤ y7.heap.size) := ba.size
      have LO2 : Hid (w.heap.size + 2 ≤ y6.heap.size) := X6y.out
      have SM : Hid (y7.heap.size ≤ y7.heap.size) := Nat.le_refl _
      have GPOS : Hid (g6 < y6.heap.size ∨ y7.heap.size ≤ g6) := .inl (Row.lt M6.out)
      have M7 := Lib.hid (show RowM _ _ _ _ _ _ from Row.below M6.out ba)
      refine hK.out _ _ (⟨P7y.out.cell 0, P7y.out.cell 1, P7y.out.cell 2, P7y.out.cell 3⟩) (fun hHeld => ?_)
      clear hK K ba
      (try simp only [Act.put, List.getElem_toArray, List.getElem_cons_zero, List.getElem_cons_succ, List.setIfInBounds_toArray, List.set_cons_zero, List.set_cons_succ])
      refine wpAnyH_ready (rs := [5]) (by kernel_rfl) (by simp) ?_
      refine AllReadyH.cons rfl (fun K hK => ?_) AllReadyH.nil
      go_simp
      refine (c_copyInts d cs _ (ZW.out.below B7y.out) (by have := HG.out.n; have := HLC.out; omega)).mono ?_
      rintro e y8 ⟨d2, rfl, hoC, ba⟩
      have OC := Lib.hid (Own.mono hoC SM.out); clear hoC
      have B8y := Lib.hid (bst B7y.out ba B7y.out.size); have P8y := Lib.hid (show RowM y8 _ _ _ _ _ from Row.below P7y.out ba); have R8y := Lib.hid (show RowM y8 _ _ _ _ _ from Row.below R7y.out ba)
      have X8y : Hid (w.heap.size + 2 ≤ y8.heap.size) := Nat.le_trans X7y.out ba.size
      replace OH := Lib.hid (OH.out.below ba)
      replace SM : Hid (y7.heap.size ≤ y8.heap.size) := Nat.le_trans SM.out ba.size
      have M8 := Lib.hid (show RowM _ _ _ _ _ _ from Row.below M7.out ba)
      refine hK.out _ _ (⟨P8y.out.cell 0, P8y.out.cell 1, P8y.out.cell 2, P8y.out.cell 3⟩) (fun hHeld => ?_)
      clear hK K ba
      (try simp only [Act.put, List.getElem_toArray, List.getElem_cons_zero, List.getElem_cons_succ, List.setIfInBounds_toArray, List.set_cons_zero, List.set_cons_succ])
      obtain ⟨⟨pa, qa, e1⟩, ⟨pb, qb, e2⟩, ⟨pc, qc, e3⟩⟩ := OH.out.shapes
      obtain ⟨pd, qd, e4⟩ := OC.out.ints.shape
      subst e1 e2 e3 e4
      refine wpAnyH_take (i := 6) (v := ?va6x7) rfl (by kernel_rfl) (by kernel_rfl) (by kernel_rfl) (fun _ _ _ h => h) (Or.inl ⟨by rfl, ?hy6x7⟩) (by assumption) ?rest6x7
      case hy6x7 => (intro w hSw; (try dsimp only at hSw); go_simp; try with_reducible rfl)
      (try simp only [Act.put, List.getElem_toArray, List.getElem_cons_zero, List.getElem_cons_succ, List.setIfInBounds_toArray, List.set_cons_zero, List.set_cons_succ])
      have FF : Hid (Fin1 w y8 y6.heap.size y7.heap.size (.slice pa h.f.length qa) (.slice pb h.l.length qb) (.slice pc h.r.length qc) (.slice pd cs.length qd) h cs) := ⟨OH.out, OC.out, R8y.out, B8y.out, LO2.out, SH.out, SM.out⟩
      have P9 := Lib.hid (show RowM _ w.heap.size a b c d from Row.putOther P8y.out (m4 (.slice pa h.f.length qa) (.slice pb h.l.length qb) (.slice pc h.r.length qc) (.slice pd cs.length qd)) (by have := GMW.out; omega : w.heap.size ≠ g6))
      have F9 : Hid (Fin1 w (y8.setRow g6 (m4 (.slice pa h.f.length qa) (.slice pb h.l.length qb) (.slice pc h.r.length qc) (.slice pd cs.length qd))) y6.heap.size y7.heap.size (.slice pa h.f.length qa) (.slice pb h.l.length qb) (.slice pc h.r.length qc) (.slice pd cs.length qd) h cs) := FF.out.row M8.out (by decide) GPOS.out GMW.out
      refine wpAnyH_ready (rs := [8]) (by kernel_rfl) (by simp) ?_
      refine AllReadyH.cons rfl (fun K hK => ?_) AllReadyH.nil
      refine wp_store_row 34 _ _ rfl g6 (m4 (.slice pa h.f.length qa) (.slice pb h.l.length qb) (.slice pc h.r.length qc) (.slice pd cs.length qd)) rfl rfl 34 _ M8.out info_marking rfl (by simp [Value.oneCell']) ?_
      refine hK.out _ _ ⟨P9.out.cell 0, P9.out.cell 1, P9.out.cell 2, P9.out.cell 3⟩ (fun hHeld => ?_)
      clear hK K
      (try simp only [Act.put, List.getElem_toArray, List.getElem_cons_zero, List.getElem_cons_succ])
      refine wpAnyH_done (by kernel_rfl) ?_ _
      go_wp2_with fail
      go_meet
      case rel => exact ⟨g6, y6.heap.size, y7.heap.size, pa, qa, pb, qb, pc, qc, pd, qd, rfl, F9, Row.put M8.out _, GPOS, GMW⟩
  case rest =>
    obtain ⟨gM, l1, m, pa, qa, pb, qb, pc, qc, pd, qd, rfl, F1, M1, GP, GM⟩ := hcut
    have HNF : Hid (h.f.length ≤ 12) := HG.out.n
    have HNR : Hid (h.r.length ≤ 4) := HG.out.rn
    have HLL : Hid (h.l.length = h.f.length) := HG.out.ll
    generalize hnf : h.f.length = nf at *
    have HF := Lib.hid hnf; clear hnf
    generalize hnl : h.l.length = nl at *
    have HL := Lib.hid hnl; clear hnl
    generalize hnr : h.r.length = nr at *
    have HR := Lib.hid hnr; clear hnr
    generalize hnc : cs.length = nc at *
    have HNC := Lib.hid hnc; clear hnc
    have F2 : Hid (Fin1 w wc.drew l1 m (.slice pa nf qa) (.slice pb nl qb) (.slice pc nr qc) (.slice pd nc qd) h cs) := F1.out.below (below_drew (Below.refl _ _))
    have M2 : Hid (RowM wc.drew gM (.slice pa nf qa) (.slice pb nl qb) (.slice pc nr qc) (.slice pd nc qd)) := M1.out
    clear F1 M1
    go_upto_region 4 with fail
    go_cut [8] from 21 (fun p wk => ∃ gK gu gb : Nat, p = .pointer (some ⟨gK, 0, none⟩) ∧ Hid (Fin1 w wk l1 m (.slice pa nf qa) (.slice pb nl qb) (.slice pc nr qc) (.slice pd nc qd) h cs) ∧ Hid (RowM wk gM (.slice pa nf qa) (.slice pb nl qb) (.slice pc nr qc) (.slice pd nc qd)) ∧ Hid (Row wk gK 97 (c5 (.slice pa nf qa) (.slice pb nl qb) (.slice pc nr qc) (.slice pd nc qd) (.func (.func 119) #[] #[.pointer (some ⟨gu, 0, none⟩), .pointer (some ⟨gb, 0, none⟩)]))) ∧ Hid (Row wk gu 3 #[.int .i64 0]) ∧ Hid (Row wk gb 24 #[nilS]) ∧ Hid (m ≤ gu ∧ gb ≠ gu ∧ Value.ownBlock (.slice pd nc qd) ≠ some gu))
    case first =>
      refine wp_region_held_drew (S := (fun w' => w'.cell? ⟨gM, 0, none⟩ = some (.slice pa nf qa) ∧ w'.cell? ⟨gM, 1, none⟩ = some (.slice pb nl qb) ∧ w'.cell? ⟨gM, 2, none⟩ = some (.slice pc nr qc) ∧ w'.cell? ⟨gM, 3, none⟩ = some (.slice pd nc qd))) (by kernel_rfl) (⟨M2.out.cell 0, M2.out.cell 1, M2.out.cell 2, M2.out.cell 3⟩) (fun hHeld => ?_)
      generalize wc.drew = x1 at *
      refine wpAnyH_take (i := 0) (v := ?va0x8) rfl (by kernel_rfl) (by kernel_rfl) (by kernel_rfl) (fun _ _ _ h => h) (Or.inl ⟨by rfl, ?hy0x8⟩) (by assumption) ?rest0x8
      case hy0x8 => (intro w hSw; (try dsimp only at hSw); go_simp; try with_reducible rfl)
      (try simp only [Act.put, List.getElem_toArray, List.getElem_cons_zero, List.setIfInBounds_toArray, List.set_cons_zero, List.set_cons_succ])
      refine wpAnyH_take (i := 1) (v := ?va1x9) rfl (by kernel_rfl) (by kernel_rfl) (by kernel_rfl) (fun _ _ _ h => h) (Or.inl ⟨by rfl, ?hy1x9⟩) (by assumption) ?rest1x9
      case hy1x9 => (intro w hSw; (try dsimp only at hSw); go_simp; try with_reducible rfl)
      (try simp only [Act.put, List.getElem_toArray, List.getElem_cons_zero, List.getElem_cons_succ, List.setIfInBounds_toArray, List.set_cons_zero, List.set_cons_succ])
      refine wpAnyH_take (i := 2) (v := ?va2x10) rfl (by kernel_rfl) (by kernel_rfl) (by kernel_rfl) (fun _ _ _ h => h) (Or.inl ⟨by rfl, ?hy2x10⟩) (by assumption) ?rest2x10
      case hy2x10 => (intro w hSw; (try dsimp only at hSw); go_simp; try with_reducible rfl)
      (try simp only [Act.put, List.getElem_toArray, List.getElem_cons_zero, List.getElem_cons_succ, List.setIfInBounds_toArray, List.set_cons_zero, List.set_cons_succ])
      refine wpAnyH_take (i := 3) (v := ?va3x11) rfl (by kernel_rfl) (by kernel_rfl) (by kernel_rfl) (fun _ _ _ h => h) (Or.inl ⟨by rfl, ?hy3x11⟩) (by assumption) ?rest3x11
      case hy3x11 => (intro w hSw; (try dsimp only at hSw); go_simp; try with_reducible rfl)
      (try simp only [Act.put, List.getElem_toArray, List.getElem_cons_zero, List.getElem_cons_succ, List.setIfInBounds_toArray, List.set_cons_zero, List.set_cons_succ])
      refine wpAnyH_ready (rs := [4, 6]) (by kernel_rfl) (by simp) ?_
      refine AllReadyH.cons rfl (fun K hK => ?_) (AllReadyH.cons rfl (fun K hK => ?_) AllReadyH.nil)
      · skip
        go_simp
        refine (c_byChoices none 0 0 _).mono ?_
        rintro e y1 ⟨rfl, rfl⟩
        have ba := (below1 x1 (.cells #[nilS] 24)).alloc (by simp) (.cells #[.int .i64 0] 3)
        have F3 := Lib.hid (F2.out.below ba); have M3 := Lib.hid (show RowM _ _ _ _ _ _ from Row.below M2.out ba)
        have U3 := Lib.hid (Row.new1 x1 (.cells #[nilS] 24) 3 #[.int .i64 0]); have Q3 := Lib.hid ((Row.new x1 24 #[nilS]).alloc (.cells #[.int .i64 0] 3))
        have GU : Hid (m ≤ x1.heap.size + 1 ∧ x1.heap.size ≠ x1.heap.size + 1 ∧ Value.ownBlock (.slice pd nc qd) ≠ some (x1.heap.size + 1)) := ⟨by have := F2.out.q; omega, by omega, fun q => by have := (owns_lt F2.out.col q).2; omega⟩
        refine hK.out _ _ (⟨M3.out.cell 0, M3.out.cell 1, M3.out.cell 2, M3.out.cell 3⟩) (fun hHeld => ?_)
        clear hK K ba
        (try simp only [Act.put, List.getElem_toArray, List.getElem_cons_zero, List.getElem_cons_succ, List.setIfInBounds_toArray, List.set_cons_zero, List.set_cons_succ])
        refine wpAnyH_take (i := 5) (v := ?va5x12) rfl (by kernel_rfl) (by kernel_rfl) (by kernel_rfl) (fun _ _ _ h => h) (Or.inl ⟨by rfl, ?hy5x12⟩) (by assumption) ?rest5x12
        case hy5x12 => (intro w hSw; (try dsimp only at hSw); go_simp; try with_reducible rfl)
        (try simp only [Act.put, List.getElem_toArray, List.getElem_cons_zero, List.getElem_cons_succ, List.setIfInBounds_toArray, List.set_cons_zero, List.set_cons_succ])
        refine wpAnyH_ready (rs := [6]) (by kernel_rfl) (by simp) ?_
        refine AllReadyH.cons rfl (fun K hK => ?_) AllReadyH.nil
        have GKM : Hid (m ≤ x1.heap.size + 1 + 1) := (by unfold Hid; have := F2.out.q; omega)
        have ba := below1 ((x1.alloc (.cells #[nilS] 24)).alloc (.cells #[.int .i64 0] 3)) (.cells (c5 (.slice none 0 0) (.slice none 0 0) (.slice none 0 0) (.slice none 0 0) .nilFunc) 97)
        have F4 := Lib.hid (F3.out.below ba); have M4 := Lib.hid (show RowM _ _ _ _ _ _ from Row.below M3.out ba)
        have K4 : Hid (Row (((x1.alloc (.cells #[nilS] 24)).alloc (.cells #[.int .i64 0] 3)).alloc (.cells (c5 (.slice none 0 0) (.slice none 0 0) (.slice none 0 0) (.slice none 0 0) .nilFunc) 97)) (x1.heap.size + 1 + 1) 97 (c5 (.slice none 0 0) (.slice none 0 0) (.slice none 0 0) (.slice none 0 0) .nilFunc)) := (by { unfold Hid; have q := Row.new ((x1.alloc (.cells #[nilS] 24)).alloc (.cells #[.int .i64 0] 3)) 97 (c5 (.slice none 0 0) (.slice none 0 0) (.slice none 0 0) (.slice none 0 0) .nilFunc); rw [show ((x1.alloc (.cells #[nilS] 24)).alloc (.cells #[.int .i64 0] 3)).heap.size = x1.heap.size + 1 + 1 by simp] at q; exact q })
        replace U3 := Lib.hid (Row.below U3.out ba)
        replace Q3 := Lib.hid (Row.below Q3.out ba)
        go_simp
        refine hK.out _ _ (⟨M4.out.cell 0, M4.out.cell 1, M4.out.cell 2, M4.out.cell 3⟩) (fun hHeld => ?_)
        clear hK K ba
        (try simp only [Act.put, List.getElem_toArray, List.getElem_cons_zero, List.getElem_cons_succ, List.setIfInBounds_toArray, List.set_cons_zero, List.set_cons_succ])
        have nKM : (x1.heap.size + 1 + 1) ≠ gM := rows_ne K4.out M4.out (by decide)
        have nKU : (x1.heap.size + 1 + 1) ≠ (x1.heap.size + 1) := rows_ne K4.out U3.out (by decide)
        have nKB : (x1.heap.size + 1 + 1) ≠ x1.heap.size := rows_ne K4.out Q3.out (by decide)
        have gKm : m ≤ (x1.heap.size + 1 + 1) := GKM.out
        have gKw : w.heap.size + 1 < (x1.heap.size + 1 + 1) := by have := F4.out.q; omega
        have F5 := Lib.hid (F4.out.row K4.out (by decide) (ds := (c5 (.slice pa nf qa) (.slice pb nl qb) (.slice pc nr qc) (.slice pd nc qd) (.func (.func 119) #[] #[.pointer (some ⟨(x1.heap.size + 1), 0, none⟩), .pointer (some ⟨x1.heap.size, 0, none⟩)]))) (.inr gKm) gKw)
        have M5 := Lib.hid (show RowM _ gM _ _ _ _ from Row.putOther M4.out (c5 (.slice pa nf qa) (.slice pb nl qb) (.slice pc nr qc) (.slice pd nc qd) (.func (.func 119) #[] #[.pointer (some ⟨(x1.heap.size + 1), 0, none⟩), .pointer (some ⟨x1.heap.size, 0, none⟩)])) (Ne.symm nKM))
        have U5 := Lib.hid (Row.putOther U3.out (c5 (.slice pa nf qa) (.slice pb nl qb) (.slice pc nr qc) (.slice pd nc qd) (.func (.func 119) #[] #[.pointer (some ⟨(x1.heap.size + 1), 0, none⟩), .pointer (some ⟨x1.heap.size, 0, none⟩)])) (Ne.symm nKU)); have Q5 := Lib.hid (Row.putOther Q3.out (c5 (.slice pa nf qa) (.slice pb nl qb) (.slice pc nr qc) (.slice pd nc qd) (.func (.func 119) #[] #[.pointer (some ⟨(x1.heap.size + 1), 0, none⟩), .pointer (some ⟨x1.heap.size, 0, none⟩)])) (Ne.symm nKB))
        have K5 := Lib.hid (Row.put K4.out (c5 (.slice pa nf qa) (.slice pb nl qb) (.slice pc nr qc) (.slice pd nc qd) (.func (.func 119) #[] #[.pointer (some ⟨(x1.heap.size + 1), 0, none⟩), .pointer (some ⟨x1.heap.size, 0, none⟩)])))
        refine wpAnyH_ready (rs := [7]) (by kernel_rfl) (by simp) ?_
        refine AllReadyH.cons rfl (fun K hK => ?_) AllReadyH.nil
        refine wp_store_row 97 _ _ rfl ((x1.heap.size + 1 + 1)) (c5 (.slice pa nf qa) (.slice pb nl qb) (.slice pc nr qc) (.slice pd nc qd) (.func (.func 119) #[] #[.pointer (some ⟨(x1.heap.size + 1), 0, none⟩), .pointer (some ⟨x1.heap.size, 0, none⟩)])) rfl rfl 97 _ K4.out info_marker7 rfl (by simp [Value.oneCell']) ?_
        refine hK.out _ _ ⟨M5.out.cell 0, M5.out.cell 1, M5.out.cell 2, M5.out.cell 3⟩ (fun hHeld => ?_)
        clear hK K
        (try simp only [Act.put, List.getElem_toArray, List.getElem_cons_zero, List.getElem_cons_succ])
        refine wpAnyH_done (by kernel_rfl) ?_ _
        go_wp2_with fail
        go_meet
        case rel => exact ⟨(x1.heap.size + 1 + 1), (x1.heap.size + 1), x1.heap.size, rfl, F5, M5, K5, U5, Q5, GU⟩
      · skip
        have GKM : Hid (m ≤ x1.heap.size) := F2.out.q.2.2
        have ba := below1 x1 (.cells (c5 (.slice none 0 0) (.slice none 0 0) (.slice none 0 0) (.slice none 0 0) .nilFunc) 97)
        have F4 := Lib.hid (F2.out.below ba); have M4 := Lib.hid (show RowM _ _ _ _ _ _ from Row.below M2.out ba)
        have K4 : Hid (Row (x1.alloc (.cells (c5 (.slice none 0 0) (.slice none 0 0) (.slice none 0 0) (.slice none 0 0) .nilFunc) 97)) (x1.heap.size) 97 (c5 (.slice none 0 0) (.slice none 0 0) (.slice none 0 0) (.slice none 0 0) .nilFunc)) := (by { unfold Hid; have q := Row.new x1 97 (c5 (.slice none 0 0) (.slice none 0 0) (.slice none 0 0) (.slice none 0 0) .nilFunc); exact q })
        go_simp
        refine hK.out _ _ (⟨M4.out.cell 0, M4.out.cell 1, M4.out.cell 2, M4.out.cell 3⟩) (fun hHeld => ?_)
        clear hK K ba
        (try simp only [Act.put, List.getElem_toArray, List.getElem_cons_zero, List.getElem_cons_succ, List.setIfInBounds_toArray, List.set_cons_zero, List.set_cons_succ])
        clear F2 M2
        generalize hgk : x1.heap.size = gk at *
        clear hgk
        generalize x1.alloc (.cells (c5 (.slice none 0 0) (.slice none 0 0) (.slice none 0 0) (.slice none 0 0) .nilFunc) 97) = x2 at *
        refine wpAnyH_ready (rs := [4]) (by kernel_rfl) (by simp) ?_
        refine AllReadyH.cons rfl (fun K hK => ?_) AllReadyH.nil
        go_simp
        refine (c_byChoices none 0 0 _).mono ?_
        rintro e y1 ⟨rfl, rfl⟩
        have ba := (below1 x2 (.cells #[nilS] 24)).alloc (by simp) (.cells #[.int .i64 0] 3)
        have F3 := Lib.hid (F4.out.below ba); have M3 := Lib.hid (show RowM _ _ _ _ _ _ from Row.below M4.out ba)
        have U3 := Lib.hid (Row.new1 x2 (.cells #[nilS] 24) 3 #[.int .i64 0]); have Q3 := Lib.hid ((Row.new x2 24 #[nilS]).alloc (.cells #[.int .i64 0] 3))
        have GU : Hid (m ≤ x2.heap.size + 1 ∧ x2.heap.size ≠ x2.heap.size + 1 ∧ Value.ownBlock (.slice pd nc qd) ≠ some (x2.heap.size + 1)) := ⟨by have := F4.out.q; omega, by omega, fun q => by have := (owns_lt F4.out.col q).2; omega⟩
        have K3 := Lib.hid (Row.below K4.out ba)
        refine hK.out _ _ (⟨M3.out.cell 0, M3.out.cell 1, M3.out.cell 2, M3.out.cell 3⟩) (fun hHeld => ?_)
        clear hK K ba
        (try simp only [Act.put, List.getElem_toArray, List.getElem_cons_zero, List.getElem_cons_succ, List.setIfInBounds_toArray, List.set_cons_zero, List.set_cons_succ])
        refine wpAnyH_take (i := 5) (v := ?va5x13) rfl (by kernel_rfl) (by kernel_rfl) (by kernel_rfl) (fun _ _ _ h => h) (Or.inl ⟨by rfl, ?hy5x13⟩) (by assumption) ?rest5x13
        case hy5x13 => (intro w hSw; (try dsimp only at hSw); go_simp; try with_reducible rfl)
        (try simp only [Act.put, List.getElem_toArray, List.getElem_cons_zero, List.getElem_cons_succ, List.setIfInBounds_toArray, List.set_cons_zero, List.set_cons_succ])
        have nKM : gk ≠ gM := rows_ne K3.out M3.out (by decide)
        have nKU : gk ≠ (x2.heap.size + 1) := rows_ne K3.out U3.out (by decide)
        have nKB : gk ≠ x2.heap.size := rows_ne K3.out Q3.out (by decide)
        have gKm : m ≤ gk := GKM.out
        have gKw : w.heap.size + 1 < gk := by have := F3.out.q; omega
        have F5 := Lib.hid (F3.out.row K3.out (by decide) (ds := (c5 (.slice pa nf qa) (.slice pb nl qb) (.slice pc nr qc) (.slice pd nc qd) (.func (.func 119) #[] #[.pointer (some ⟨(x2.heap.size + 1), 0, none⟩), .pointer (some ⟨x2.heap.size, 0, none⟩)]))) (.inr gKm) gKw)
        have M5 := Lib.hid (show RowM _ gM _ _ _ _ from Row.putOther M3.out (c5 (.slice pa nf qa) (.slice pb nl qb) (.slice pc nr qc) (.slice pd nc qd) (.func (.func 119) #[] #[.pointer (some ⟨(x2.heap.size + 1), 0, none⟩), .pointer (some ⟨x2.heap.size, 0, none⟩)])) (Ne.symm nKM))
        have U5 := Lib.hid (Row.putOther U3.out (c5 (.slice pa nf qa) (.slice pb nl qb) (.slice pc nr qc) (.slice pd nc qd) (.func (.func 119) #[] #[.pointer (some ⟨(x2.heap.size + 1), 0, none⟩), .pointer (some ⟨x2.heap.size, 0, none⟩)])) (Ne.symm nKU)); have Q5 := Lib.hid (Row.putOther Q3.out (c5 (.slice pa nf qa) (.slice pb nl qb) (.slice pc nr qc) (.slice pd nc qd) (.func (.func 119) #[] #[.pointer (some ⟨(x2.heap.size + 1), 0, none⟩), .pointer (some ⟨x2.heap.size, 0, none⟩)])) (Ne.symm nKB))
        have K5 := Lib.hid (Row.put K3.out (c5 (.slice pa nf qa) (.slice pb nl qb) (.slice pc nr qc) (.slice pd nc qd) (.func (.func 119) #[] #[.pointer (some ⟨(x2.heap.size + 1), 0, none⟩), .pointer (some ⟨x2.heap.size, 0, none⟩)])))
        refine wpAnyH_ready (rs := [7]) (by kernel_rfl) (by simp) ?_
        refine AllReadyH.cons rfl (fun K hK => ?_) AllReadyH.nil
        refine wp_store_row 97 _ _ rfl (gk) (c5 (.slice pa nf qa) (.slice pb nl qb) (.slice pc nr qc) (.slice pd nc qd) (.func (.func 119) #[] #[.pointer (some ⟨(x2.heap.size + 1), 0, none⟩), .pointer (some ⟨x2.heap.size, 0, none⟩)])) rfl rfl 97 _ K3.out info_marker7 rfl (by simp [Value.oneCell']) ?_
        refine hK.out _ _ ⟨M5.out.cell 0, M5.out.cell 1, M5.out.cell 2, M5.out.cell 3⟩ (fun hHeld => ?_)
        clear hK K
        (try simp only [Act.put, List.getElem_toArray, List.getElem_cons_zero, List.getElem_cons_succ])
        refine wpAnyH_done (by kernel_rfl) ?_ _
        go_wp2_with fail
        go_meet
        case rel => exact ⟨gk, (x2.heap.size + 1), x2.heap.size, rfl, F5, M5, K5, U5, Q5, GU⟩
    case rest =>
      obtain ⟨gK, gu, gb, rfl, F3, M3, K3, U3, Q3, GU⟩ := hcut
      have k0 := K3.out.cell 0
      have k1 := K3.out.cell 1
      have k2 := K3.out.cell 2
      have k3 := K3.out.cell 3
      have k4 := K3.out.cell 4
      have NMU : Hid (gM ≠ gu) := rows_ne M3.out U3.out (by decide)
      clear F2 M2
      cases put
      · skip
        have HL0 : Hid (cs.length = h.f.length) := (by unfold Hid; rw [HNC.out, HLC.out, HF.out])
        have HC0 : Hid (Col cs) := HCOL
        have HCE : Hid (cols0 h cs false = cs) := rfl
        go_wp2_with fail
        refine (c_finish7 (cutW wc m) (.slice pa nf qa) (.slice pb nl qb) (.slice pc nr qc) (.slice pd nc qd) nilS h cs [] gu gb wc F3.out.wheap.reads.f HG.out ⟨none, 0, rfl, fun q => absurd q (by simp)⟩ (by decide) (fun _ => rfl) HL0.out HC0.out (cutW_below F3.out.q.2.2) (by rw [cutW_size F3.out.q.2.2]; exact F3.out.col) U3.out Q3.out (by rw [cutW_size F3.out.q.2.2]; exact GU.out.1) GU.out.2.2 (ne_row F3.out.col Q3.out (by decide)) GU.out.2.1).mono ?_
        rintro e w5 ⟨⟨sn, rfl, -, -, -, -⟩, ho5, hb5, hf5, hs5⟩
        have M5 := Lib.hid (show RowM w5 gM (.slice pa nf qa) (.slice pb nl qb) (.slice pc nr qc) (.slice pd nc qd) from (hf5 gM (Row.lt M3.out) (ne_row F3.out.col M3.out (by decide)) NMU.out).trans M3.out)
        have F5 : Hid (Fin1 w w5 l1 m (.slice pa nf qa) (.slice pb nl qb) (.slice pc nr qc) (.slice pd nc qd) h (finC h cs)) := F3.out.fin hb5 ho5 hf5 GU.out.1 hs5
        have HRR : Hid (r = ((keepTo h (keptB (finC h cs)) nf).1, finC h cs, (keepTo h (keptB (finC h cs)) nf).2)) := (by { unfold Hid; have h1 := HE.out; unfold endC7 at h1; rw [HCE.out] at h1; exact h1 })
        have HEL : Hid ((finC h cs).length = nf) := (by unfold Hid finC; rw [finN_len, HL0.out, HF.out])
        clear ho5 hb5 hf5 hs5 k0 k1 k2 k3 k4
        generalize finC h cs = es at *
        go_wp2_with fail
        have F6 : Hid (Fin1 w w5.drew l1 m (.slice pa nf qa) (.slice pb nl qb) (.slice pc nr qc) (.slice pd nc qd) h es) := F5.out.below (below_drew (Below.refl _ _))
        have M6 : Hid (RowM w5.drew gM (.slice pa nf qa) (.slice pb nl qb) (.slice pc nr qc) (.slice pd nc qd)) := M5.out
        refine wp_region_held_drew (S := (fun w' => w'.cell? ⟨gM, 0, none⟩ = some (.slice pa nf qa) ∧ w'.cell? ⟨gM, 1, none⟩ = some (.slice pb nl qb) ∧ w'.cell? ⟨gM, 2, none⟩ = some (.slice pc nr qc) ∧ w'.cell? ⟨gM, 3, none⟩ = some (.slice pd nc qd))) (by kernel_rfl) (⟨M6.out.cell 0, M6.out.cell 1, M6.out.cell 2, M6.out.cell 3⟩) (fun hHeld => ?_)
        generalize w5.drew = x5 at *
        refine wpAnyH_take (i := 0) (v := ?va0x14) rfl (by kernel_rfl) (by kernel_rfl) (by kernel_rfl) (fun _ _ _ h => h) (Or.inl ⟨by rfl, ?hy0x14⟩) (by assumption) ?rest0x14
        case hy0x14 => (intro w hSw; (try dsimp only at hSw); go_simp; try with_reducible rfl)
        (try simp only [Act.put, List.getElem_toArray, List.getElem_cons_zero, List.setIfInBounds_toArray, List.set_cons_zero, List.set_cons_succ])
        refine wpAnyH_take (i := 1) (v := ?va1x15) rfl (by kernel_rfl) (by kernel_rfl) (by kernel_rfl) (fun _ _ _ h => h) (Or.inl ⟨by rfl, ?hy1x15⟩) (by assumption) ?rest1x15
        case hy1x15 => (intro w hSw; (try dsimp only at hSw); go_simp; try with_reducible rfl)
        (try simp only [Act.put, List.getElem_toArray, List.getElem_cons_zero, List.getElem_cons_succ, List.setIfInBounds_toArray, List.set_cons_zero, List.set_cons_succ])
        refine wpAnyH_take (i := 2) (v := ?va2x16) rfl (by kernel_rfl) (by kernel_rfl) (by kernel_rfl) (fun _ _ _ h => h) (Or.inl ⟨by rfl, ?hy2x16⟩) (by assumption) ?rest2x16
        case hy2x16 => (intro w hSw; (try dsimp only at hSw); go_simp; try with_reducible rfl)
        (try simp only [Act.put, List.getElem_toArray, List.getElem_cons_zero, List.getElem_cons_succ, List.setIfInBounds_toArray, List.set_cons_zero, List.set_cons_succ])
        refine wpAnyH_take (i := 3) (v := ?va3x17) rfl (by kernel_rfl) (by kernel_rfl) (by kernel_rfl) (fun _ _ _ h => h) (Or.inl ⟨by rfl, ?hy3x17⟩) (by assumption) ?rest3x17
        case hy3x17 => (intro w hSw; (try dsimp only at hSw); go_simp; try with_reducible rfl)
        (try simp only [Act.put, List.getElem_toArray, List.getElem_cons_zero, List.getElem_cons_succ, List.setIfInBounds_toArray, List.set_cons_zero, List.set_cons_succ])
        refine wpAnyH_ready (rs := [4]) (by kernel_rfl) (by simp) ?_
        refine AllReadyH.cons rfl (fun K hK => ?_) AllReadyH.nil
        go_simp
        refine (c_keptBy (.slice pd nc qd) es _ F6.out.col.ints (by have := HEL.out; have := HNF.out; omega)).mono ?_
        rintro e y5 ⟨kv, rfl, hok, ba⟩
        have F7 := Lib.hid (F6.out.below ba); have M7 := Lib.hid (show RowM _ _ _ _ _ _ from Row.below M6.out ba)
        have OK7 := Lib.hid (owns_mono hok fun g hg => Nat.le_trans F6.out.q.2.2 (owns_lt hok hg).1)
        clear hok ba
        refine hK.out _ _ (⟨M7.out.cell 0, M7.out.cell 1, M7.out.cell 2, M7.out.cell 3⟩) (fun hHeld => ?_)
        clear hK K
        (try simp only [Act.put, List.getElem_toArray, List.getElem_cons_zero, List.getElem_cons_succ, List.setIfInBounds_toArray, List.set_cons_zero, List.set_cons_succ])
        refine wpAnyH_ready (rs := [5]) (by kernel_rfl) (by simp) ?_
        refine AllReadyH.cons rfl (fun K hK => ?_) AllReadyH.nil
        go_simp
        refine (c_keepThings _ _ _ kv h (keptB es) l1 m _ F7.out.heap OK7.out F7.out.q.2.2 HG.out.ll (by rw [keptB_len, HEL.out, HF.out]) HG.out.n).mono ?_
        rintro e y6 ⟨rfl, ho8, hc8⟩
        rw [HF.out] at ho8
        simp only [HF.out]
        have F8 := Lib.hid (F7.out.chgH ho8 hc8); have M8 := Lib.hid (show RowM _ _ _ _ _ _ from Row.chg M7.out hc8 GP.out)
        clear ho8 hc8
        refine hK.out _ _ (⟨M8.out.cell 0, M8.out.cell 1, M8.out.cell 2, M8.out.cell 3⟩) (fun hHeld => ?_)
        clear hK K
        (try simp only [Act.put, List.getElem_toArray, List.getElem_cons_zero, List.getElem_cons_succ, List.setIfInBounds_toArray, List.set_cons_zero, List.set_cons_succ])
        refine wpAnyH_take (i := 6) (v := ?va6x18) rfl (by kernel_rfl) (by kernel_rfl) (by kernel_rfl) (fun _ _ _ h => h) (Or.inl ⟨by rfl, ?hy6x18⟩) (by assumption) ?rest6x18
        case hy6x18 => (intro w hSw; (try dsimp only at hSw); go_simp; try with_reducible rfl)
        (try simp only [Act.put, List.getElem_toArray, List.getElem_cons_zero, List.getElem_cons_succ, List.setIfInBounds_toArray, List.set_cons_zero, List.set_cons_succ])
        refine wpAnyH_done (by kernel_rfl) ?_ _
        clear hHeld
        go_wp2_with (first
          | (refine wl_loadM rfl _ rfl gM _ _ _ _ M8.out rfl ?_)
          | (refine wl_storeM rfl _ _ rfl (w.heap.size + 1) (.slice pa nf qa) (.slice pb nl qb) (.slice pc nr qc) (.slice pd nc qd) _ _ _ _ F8.out.r rfl rfl rfl rfl rfl rfl ?_))
        refine bodyPost_ret (res_row_slot2 Try.results39 (Row.put F8.out.r (m4 (.slice pa nf qa) (.slice pb nl qb) (.slice pc nr qc) (.slice pd nc qd))) rfl rfl rfl Try.underlying34 rfl info_marking) rfl (endMI_yes (below_setRow F8.out.l (by omega) _) ((OwnM.hc F8.out.heap (OwnC.ofOwn F8.out.col F8.out.q.2.2) F8.out.q.2.1 F8.out.q.2.2).whole (w.heap.size + 1) (by have := F8.out.q; omega) _) (by have := F8.out.q; omega) (by rw [size_setRow]; exact Nat.le_refl _) (by rw [HRR.out]) (by rw [HRR.out]) (by rw [HRR.out]) rfl)
      · skip
        have mr := M3.out.cell 2
        go_wp2_with fail
        refine (c_shadeAll (cutW wc m) (.slice pa nf qa) (.slice pb nl qb) (.slice pc nr qc) (.func (.func 119) #[] #[.pointer (some ⟨gu, 0, none⟩), .pointer (some ⟨gb, 0, none⟩)]) (.slice pd nc qd) (.slice pc nr qc) cs h.r wc F3.out.wheap.reads.r (cutW_below F3.out.q.2.2) (by rw [cutW_size F3.out.q.2.2]; exact F3.out.col) HCOL.out (fun z hz => (refs_bound HG.out HG.out.rr z hz).imp id (fun q => ⟨q.1, by rw [HNC.out, HLC.out, ← HF.out]; exact q.2.1⟩)) (by rw [HR.out]; have := HNR.out; omega)).mono ?_
        rintro e w4 ⟨rfl, ho4, hg4⟩
        rw [cutW_size F3.out.q.2.2] at ho4
        have F4 := Lib.hid (F3.out.setC hg4 ho4)
        have M4 := Lib.hid (show RowM _ _ _ _ _ _ from Row.grownBy M3.out hg4 (ne_row F3.out.col M3.out (by decide)))
        have K4 := Lib.hid (Row.grownBy K3.out hg4 (ne_row F3.out.col K3.out (by decide)))
        have U4 := Lib.hid (Row.grownBy U3.out hg4 GU.out.2.2)
        have Q4 := Lib.hid (Row.grownBy Q3.out hg4 (ne_row F3.out.col Q3.out (by decide)))
        clear ho4 hg4 k0 k1 k2 k3 k4 mr
        have k0 := K4.out.cell 0
        have k1 := K4.out.cell 1
        have k2 := K4.out.cell 2
        have k3 := K4.out.cell 3
        have k4 := K4.out.cell 4
        have HL0 : Hid ((shades cs h.r).length = h.f.length) := (by unfold Hid; rw [shades_len, HNC.out, HLC.out, HF.out])
        have HC0 : Hid (Col (shades cs h.r)) := HCOL.out.shades
        have HCE : Hid (cols0 h cs true = shades cs h.r) := rfl
        generalize shades cs h.r = c9 at *
        go_wp2_with fail
        refine (c_finish7 (cutW w4 m) (.slice pa nf qa) (.slice pb nl qb) (.slice pc nr qc) (.slice pd nc qd) nilS h c9 [] gu gb w4 F4.out.wheap.reads.f HG.out ⟨none, 0, rfl, fun q => absurd q (by simp)⟩ (by decide) (fun _ => rfl) HL0.out HC0.out (cutW_below F4.out.q.2.2) (by rw [cutW_size F4.out.q.2.2]; exact F4.out.col) U4.out Q4.out (by rw [cutW_size F4.out.q.2.2]; exact GU.out.1) GU.out.2.2 (ne_row F4.out.col Q4.out (by decide)) GU.out.2.1).mono ?_
        rintro e w5 ⟨⟨sn, rfl, -, -, -, -⟩, ho5, hb5, hf5, hs5⟩
        have M5 := Lib.hid (show RowM w5 gM (.slice pa nf qa) (.slice pb nl qb) (.slice pc nr qc) (.slice pd nc qd) from (hf5 gM (Row.lt M4.out) (ne_row F4.out.col M4.out (by decide)) NMU.out).trans M4.out)
        have F5 : Hid (Fin1 w w5 l1 m (.slice pa nf qa) (.slice pb nl qb) (.slice pc nr qc) (.slice pd nc qd) h (finC h c9)) := F4.out.fin hb5 ho5 hf5 GU.out.1 hs5
        have HRR : Hid (r = ((keepTo h (keptB (finC h c9)) nf).1, finC h c9, (keepTo h (keptB (finC h c9)) nf).2)) := (by { unfold Hid; have h1 := HE.out; unfold endC7 at h1; rw [HCE.out] at h1; exact h1 })
        have HEL : Hid ((finC h c9).length = nf) := (by unfold Hid finC; rw [finN_len, HL0.out, HF.out])
        clear ho5 hb5 hf5 hs5 k0 k1 k2 k3 k4
        generalize finC h c9 = es at *
        go_wp2_with fail
        have F6 : Hid (Fin1 w w5.drew l1 m (.slice pa nf qa) (.slice pb nl qb) (.slice pc nr qc) (.slice pd nc qd) h es) := F5.out.below (below_drew (Below.refl _ _))
        have M6 : Hid (RowM w5.drew gM (.slice pa nf qa) (.slice pb nl qb) (.slice pc nr qc) (.slice pd nc qd)) := M5.out
        refine wp_region_held_drew (S := (fun w' => w'.cell? ⟨gM, 0, none⟩ = some (.slice pa nf qa) ∧ w'.cell? ⟨gM, 1, none⟩ = some (.slice pb nl qb) ∧ w'.cell? ⟨gM, 2, none⟩ = some (.slice pc nr qc) ∧ w'.cell? ⟨gM, 3, none⟩ = some (.slice pd nc qd))) (by kernel_rfl) (⟨M6.out.cell 0, M6.out.cell 1, M6.out.cell 2, M6.out.cell 3⟩) (fun hHeld => ?_)
        generalize w5.drew = x5 at *
        refine wpAnyH_take (i := 0) (v := ?va0x19) rfl (by kernel_rfl) (by kernel_rfl) (by kernel_rfl) (fun _ _ _ h => h) (Or.inl ⟨by rfl, ?hy0x19⟩) (by assumption) ?rest0x19
        case hy0x19 => (intro w hSw; (try dsimp only at hSw); go_simp; try with_reducible rfl)
        (try simp only [Act.put, List.getElem_toArray, List.getElem_cons_zero, List.setIfInBounds_toArray, List.set_cons_zero, List.set_cons_succ])
        refine wpAnyH_take (i := 1) (v := ?va1x20) rfl (by kernel_rfl) (by kernel_rfl) (by kernel_rfl) (fun _ _ _ h => h) (Or.inl ⟨by rfl, ?hy1x20⟩) (by assumption) ?rest1x20
        case hy1x20 => (intro w hSw; (try dsimp only at hSw); go_simp; try with_reducible rfl)
        (try simp only [Act.put, List.getElem_toArray, List.getElem_cons_zero, List.getElem_cons_succ, List.setIfInBounds_toArray, List.set_cons_zero, List.set_cons_succ])
        refine wpAnyH_take (i := 2) (v := ?va2x21) rfl (by kernel_rfl) (by kernel_rfl) (by kernel_rfl) (fun _ _ _ h => h) (Or.inl ⟨by rfl, ?hy2x21⟩) (by assumption) ?rest2x21
        case hy2x21 => (intro w hSw; (try dsimp only at hSw); go_simp; try with_reducible rfl)
        (try simp only [Act.put, List.getElem_toArray, List.getElem_cons_zero, List.getElem_cons_succ, List.setIfInBounds_toArray, List.set_cons_zero, List.set_cons_succ])
        refine wpAnyH_take (i := 3) (v := ?va3x22) rfl (by kernel_rfl) (by kernel_rfl) (by kernel_rfl) (fun _ _ _ h => h) (Or.inl ⟨by rfl, ?hy3x22⟩) (by assumption) ?rest3x22
        case hy3x22 => (intro w hSw; (try dsimp only at hSw); go_simp; try with_reducible rfl)
        (try simp only [Act.put, List.getElem_toArray, List.getElem_cons_zero, List.getElem_cons_succ, List.setIfInBounds_toArray, List.set_cons_zero, List.set_cons_succ])
        refine wpAnyH_ready (rs := [4]) (by kernel_rfl) (by simp) ?_
        refine AllReadyH.cons rfl (fun K hK => ?_) AllReadyH.nil
        go_simp
        refine (c_keptBy (.slice pd nc qd) es _ F6.out.col.ints (by have := HEL.out; have := HNF.out; omega)).mono ?_
        rintro e y5 ⟨kv, rfl, hok, ba⟩
        have F7 := Lib.hid (F6.out.below ba); have M7 := Lib.hid (show RowM _ _ _ _ _ _ from Row.below M6.out ba)
        have OK7 := Lib.hid (owns_mono hok fun g hg => Nat.le_trans F6.out.q.2.2 (owns_lt hok hg).1)
        clear hok ba
        refine hK.out _ _ (⟨M7.out.cell 0, M7.out.cell 1, M7.out.cell 2, M7.out.cell 3⟩) (fun hHeld => ?_)
        clear hK K
        (try simp only [Act.put, List.getElem_toArray, List.getElem_cons_zero, List.getElem_cons_succ, List.setIfInBounds_toArray, List.set_cons_zero, List.set_cons_succ])
        refine wpAnyH_ready (rs := [5]) (by kernel_rfl) (by simp) ?_
        refine AllReadyH.cons rfl (fun K hK => ?_) AllReadyH.nil
        go_simp
        refine (c_keepThings _ _ _ kv h (keptB es) l1 m _ F7.out.heap OK7.out F7.out.q.2.2 HG.out.ll (by rw [keptB_len, HEL.out, HF.out]) HG.out.n).mono ?_
        rintro e y6 ⟨rfl, ho8, hc8⟩
        rw [HF.out] at ho8
        simp only [HF.out]
        have F8 := Lib.hid (F7.out.chgH ho8 hc8); have M8 := Lib.hid (show RowM _ _ _ _ _ _ from Row.chg M7.out hc8 GP.out)
        clear ho8 hc8
        refine hK.out _ _ (⟨M8.out.cell 0, M8.out.cell 1, M8.out.cell 2, M8.out.cell 3⟩) (fun hHeld => ?_)
        clear hK K
        (try simp only [Act.put, List.getElem_toArray, List.getElem_cons_zero, List.getElem_cons_succ, List.setIfInBounds_toArray, List.set_cons_zero, List.set_cons_succ])
        refine wpAnyH_take (i := 6) (v := ?va6x23) rfl (by kernel_rfl) (by kernel_rfl) (by kernel_rfl) (fun _ _ _ h => h) (Or.inl ⟨by rfl, ?hy6x23⟩) (by assumption) ?rest6x23
        case hy6x23 => (intro w hSw; (try dsimp only at hSw); go_simp; try with_reducible rfl)
        (try simp only [Act.put, List.getElem_toArray, List.getElem_cons_zero, List.getElem_cons_succ, List.setIfInBounds_toArray, List.set_cons_zero, List.set_cons_succ])
        refine wpAnyH_done (by kernel_rfl) ?_ _
        clear hHeld
        go_wp2_with (first
          | (refine wl_loadM rfl _ rfl gM _ _ _ _ M8.out rfl ?_)
          | (refine wl_storeM rfl _ _ rfl (w.heap.size + 1) (.slice pa nf qa) (.slice pb nl qb) (.slice pc nr qc) (.slice pd nc qd) _ _ _ _ F8.out.r rfl rfl rfl rfl rfl rfl ?_))
        refine bodyPost_ret (res_row_slot2 Try.results39 (Row.put F8.out.r (m4 (.slice pa nf qa) (.slice pb nl qb) (.slice pc nr qc) (.slice pd nc qd))) rfl rfl rfl Try.underlying34 rfl info_marking) rfl (endMI_yes (below_setRow F8.out.l (by omega) _) ((OwnM.hc F8.out.heap (OwnC.ofOwn F8.out.col F8.out.q.2.2) F8.out.q.2.1 F8.out.q.2.2).whole (w.heap.size + 1) (by have := F8.out.q; omega) _) (by have := F8.out.q; omega) (by rw [size_setRow]; exact Nat.le_refl _) (by rw [HRR.out]) (by rw [HRR.out]) (by rw [HRR.out]) rfl)
end Go.Proofs.Ytdagkbgobnaijaa
namespace Go.Proofs.Ytdagkbgobnaijaa
open Go.ChangeShapes Go.WideShapes Go.ChangeAt Go.RowKit Ph

theorem r_heap : Try.prog.readableRec 26 = true ∧ 26 < Try.prog.types.size := ⟨by kernel_rfl, of_decide_eq_true (by kernel_rfl)⟩
theorem cellsIntsL : Try.prog.cellsOf 24 = 1 := by kernel_rfl
theorem cellsBool : Try.prog.cellsOf 4 = 1 := by kernel_rfl
theorem add_none (b off i : Nat) : (⟨b, off, none⟩ : Addr).add i = ⟨b, off + i, none⟩ := by simp [Addr.add]
theorem ints_cells {H : Type} {enc : TypeId × Value → H} {W : World} {fuel : Nat} {v : Value} {x : DataW H × List MemPlace} (h : DataW.trod enc Try.prog W 0 (fun _ => true) true fuel 24 [v] = some x) : ∃ zs, IntsAt W v zs ∧ zs.length ≤ 9223372036854775807 := by
  rcases open_ints Try.underlying24 Try.underlying3 cellsInt h with ⟨hcs, hx⟩ | ⟨a, len', cap', zs, hcs, _, hl, hm, hz, hx, hcell, hwz⟩
  · simp only [List.cons.injEq, and_true] at hcs
    subst hcs
    exact ⟨[], ⟨none, 0, rfl, fun h => absurd h (by simp)⟩, by simp⟩
  · simp only [List.cons.injEq, and_true] at hcs
    subst hcs
    simp only [if_true] at hz
    have hlen : (zs.take len').length = len' := by rw [List.length_take]; omega
    refine ⟨zs.take len', ⟨some a, cap', by rw [hlen], fun h0 => ?_⟩, by rw [hlen]; unfold maxLen at hm; omega⟩
    rw [hlen] at h0 ⊢
    obtain ⟨b, off, rfl, hc⟩ := ints_at hcell (by omega)
    refine ⟨b, off, rfl, fun i hi => ?_⟩
    rw [hc i (by omega)]
    simp [List.getD, hi]
theorem bools_cells {H : Type} {enc : TypeId × Value → H} {W : World} {fuel : Nat} {v : Value} {x : DataW H × List MemPlace} (h : DataW.trod enc Try.prog W 0 (fun _ => true) true fuel 23 [v] = some x) : ∃ bs, BoolsAt W v bs ∧ bs.length ≤ 9223372036854775807 := by
  rcases Deep.open_bools Try.underlying23 Try.underlying4 cellsBool h with ⟨hcs, hx⟩ | ⟨a, len, cap, B, hcs, _, hl, hm, hx, hcell⟩
  · simp only [List.cons.injEq, and_true] at hcs
    subst hcs
    exact ⟨[], ⟨none, 0, rfl, fun h => absurd h (by simp)⟩, by simp⟩
  · simp only [List.cons.injEq, and_true] at hcs
    subst hcs
    have hln : ((List.range len).map B).length = len := by simp
    refine ⟨(List.range len).map B, ⟨some a, cap, by rw [hln], fun h0 => ?_⟩, by rw [hln]; unfold maxLen at hm; omega⟩
    rw [hln] at h0 ⊢
    obtain ⟨b, off, spot⟩ := a
    have hspot : spot = none := by simpa [Addr.add] using World.cell?_spot (hcell 0 (by omega))
    subst hspot
    refine ⟨b, off, rfl, fun i hi => ?_⟩
    have h1 := hcell i (by omega)
    rw [add_none] at h1
    rw [h1]
    simp [List.getD, hi]
theorem rows_cells {H : Type} {enc : TypeId × Value → H} {W : World} {fuel : Nat} {v : Value} {x : DataW H × List MemPlace} (h : DataW.trod enc Try.prog W 0 (fun _ => true) true fuel 22 [v] = some x) : ∃ fs, RowsAt W v fs ∧ Fit fs ∧ fs.length ≤ 9223372036854775807 := by
  rcases Deep.open_int_rows Try.underlying22 Try.underlying24 Try.underlying3 cellsIntsL cellsInt h with ⟨hcs, hx⟩ | ⟨a, len, cap, A, L, C, Z, hcs, _, hl, hm, hx, hrow⟩
  · simp only [List.cons.injEq, and_true] at hcs
    subst hcs
    exact ⟨[], ⟨none, 0, rfl, fun h => absurd h (by simp)⟩, fun k hk => by simp at hk, by simp⟩
  · simp only [List.cons.injEq, and_true] at hcs
    subst hcs
    have hln : ((List.range len).map fun r => (Z r).take (L r)).length = len := by simp
    have hgd : ∀ i, i < len → ((List.range len).map fun r => (Z r).take (L r)).getD i [] = (Z i).take (L i) := fun i hi => by simp [List.getD, hi]
    have hlr : ∀ i, i < len → ((Z i).take (L i)).length = L i := fun i hi => by
      obtain ⟨_, h1, _, h2, _⟩ := hrow i (by omega)
      rw [List.length_take]; omega
    refine ⟨(List.range len).map fun r => (Z r).take (L r), ⟨some a, cap, by rw [hln], fun h0 => ?_⟩, fun k hk => ?_, by rw [hln]; unfold maxLen at hm; omega⟩
    · rw [hln] at h0 ⊢
      obtain ⟨b, off, spot⟩ := a
      have hspot : spot = none := by simpa [Addr.add] using World.cell?_spot (hrow 0 (by omega)).1
      subst hspot
      refine ⟨b, off, rfl, fun i hi => ?_⟩
      obtain ⟨q, h1, h2, h3, _, h5, h6⟩ := hrow i (by omega)
      rw [add_none] at q
      refine ⟨_, q, ?_⟩
      rw [hgd i hi]
      refine ⟨A i, C i, by rw [hlr i hi], fun hp => ?_⟩
      rw [hlr i hi] at hp ⊢
      cases hA : A i with
      | none => have := h5 hA; omega
      | some a' =>
        obtain ⟨_, hc⟩ := h6 a' hA
        obtain ⟨b', off', spot'⟩ := a'
        have hs' : spot' = none := by simpa [Addr.add] using World.cell?_spot (hc 0 (by omega))
        subst hs'
        refine ⟨b', off', rfl, fun j hj => ?_⟩
        have := hc j (by omega)
        rw [add_none] at this
        rw [this]
        simp [List.getD, hj]
    · rw [hln] at hk
      rw [hgd k hk, hlr k hk]
      obtain ⟨_, h1, h2, _⟩ := hrow k (by omega)
      unfold maxLen at h2; omega
set_option maxRecDepth 100000 in
theorem heap_of_arg {H : Type} {enc : TypeId × Value → H} {W : World} {base : Nat} {v : Value} {d : DataW H} {p : List MemPlace} (hval : Value.okWide Try.prog W .any base 26 v)
    (h : DataW.Trod enc Try.prog W 0 (fun _ => true) true 26 v d p) : ∃ (a b c : Value) (k : Ph.H), v = hv a b c ∧ HeapAt W a b c k ∧ FitH k := by
  obtain ⟨v0, v1, v2, y0, y1, y2, n, rfl, _, _, h0, h1, h2⟩ := Joins.open_agg3 Try.underlying26 (by kernel_rfl) (by kernel_rfl) hval h
  obtain ⟨fs, r1, r2, r3⟩ := rows_cells h0
  obtain ⟨bs, s1, s2⟩ := bools_cells h1
  obtain ⟨zs, t1, t2⟩ := ints_cells h2
  exact ⟨v0, v1, v2, ⟨fs, bs, zs⟩, rfl, ⟨r1, s1, t1⟩, ⟨r2, r3, s2, t2⟩⟩
set_option maxRecDepth 100000 in
theorem list_of_arg {H : Type} {enc : TypeId × Value → H} {W : World} {base : Nat} {v : Value} {d : DataW H} {p : List MemPlace} (hval : Value.okWide Try.prog W .any base 24 v)
    (h : DataW.Trod enc Try.prog W 0 (fun _ => true) true 24 v d p) : ∃ zs, IntsAt W v zs ∧ zs.length ≤ 9223372036854775807 := by
  obtain ⟨a0, len, cap, rfl⟩ := okWide_slice Try.underlying24 hval
  obtain ⟨fuel, hf⟩ := h
  exact ints_cells hf
end Go.Proofs.Ytdagkbgobnaijaa
namespace Go.Proofs.Ytdagkbgobnaijaa
open Go.RowKit Ph
abbrev mo (v : Mv) : Value := .agg #[.int .i64 v.k, .int .i64 v.a, .int .i64 v.b, .int .i64 v.t]
abbrev mo4 (v : Mv) : Array Value := #[.int .i64 v.k, .int .i64 v.a, .int .i64 v.b, .int .i64 v.t]
abbrev i64M (v : Mv) : Prop := (-9223372036854775808 ≤ v.k ∧ v.k ≤ 9223372036854775807) ∧ (-9223372036854775808 ≤ v.a ∧ v.a ≤ 9223372036854775807) ∧ (-9223372036854775808 ≤ v.b ∧ v.b ≤ 9223372036854775807) ∧ (-9223372036854775808 ≤ v.t ∧ v.t ≤ 9223372036854775807)
end Go.Proofs.Ytdagkbgobnaijaa
namespace Go.Proofs.Ytdagkbgobnaijaa
open Go.ChangeShapes Go.WideShapes Go.ChangeAt Go.RowKit Ph

theorem r_marking : Try.prog.readableRec 28 = true ∧ 28 < Try.prog.types.size := ⟨by kernel_rfl, of_decide_eq_true (by kernel_rfl)⟩
theorem cellsMarking : Try.prog.cellsOf 28 = 4 := by kernel_rfl
theorem cellsHeapL : Try.prog.cellsOf 26 = 3 := by kernel_rfl
theorem cellsRowsL : Try.prog.cellsOf 22 = 1 := by kernel_rfl
theorem cellsBoolsL : Try.prog.cellsOf 23 = 1 := by kernel_rfl
set_option maxRecDepth 100000 in
theorem marking_of_arg {H : Type} {enc : TypeId × Value → H} {W : World} {base : Nat} {v : Value} {d : DataW H} {p : List MemPlace} (hval : Value.okWide Try.prog W .any base 28 v)
    (h : DataW.Trod enc Try.prog W 0 (fun _ => true) true 28 v d p) : ∃ (a b c e : Value) (k : Ph.H) (cs : List Int), v = mv a b c e ∧ HeapAt W a b c k ∧ IntsAt W e cs ∧ FitH k ∧ cs.length ≤ 9223372036854775807 := by
  obtain ⟨cs, rfl, hsz⟩ := okWide_struct Try.underlying28 hval
  obtain ⟨x0, x1, x2, x3, rfl⟩ := Joins.array4 (hsz.trans cellsMarking)
  obtain ⟨fuel, hf⟩ := h
  obtain ⟨y0, y1, n, _, _, h0, h1⟩ := trod_struct2 Try.underlying28 hf
  simp only [Value.cells, cellsHeapL, cellsIntsL, List.drop_zero, List.drop_succ_cons, List.take_succ_cons, List.take_zero] at h0 h1
  obtain ⟨y2, y3, y4, m, _, _, h2, h3, h4⟩ := Go.Deep.trod_struct3 Try.underlying26 h0
  simp only [cellsRowsL, cellsBoolsL, cellsIntsL, List.drop_zero, List.drop_succ_cons, List.take_succ_cons, List.take_zero] at h2 h3 h4
  obtain ⟨fs, r1, r2, r3⟩ := rows_cells h2
  obtain ⟨bs, s1, s2⟩ := bools_cells h3
  obtain ⟨zs, t1, t2⟩ := ints_cells h4
  obtain ⟨us, u1, u2⟩ := ints_cells h1
  exact ⟨x0, x1, x2, x3, ⟨fs, bs, zs⟩, us, rfl, ⟨r1, s1, t1⟩, u1, ⟨r2, r3, s2, t2⟩, u2⟩

theorem r_move : Try.prog.readableRec 30 = true ∧ 30 < Try.prog.types.size := ⟨by kernel_rfl, of_decide_eq_true (by kernel_rfl)⟩
set_option maxRecDepth 100000 in
theorem move_of_arg {H : Type} {enc : TypeId × Value → H} {W : World} {base : Nat} {v : Value} {d : DataW H} {p : List MemPlace} (hval : Value.okWide Try.prog W .any base 30 v)
    (h : DataW.Trod enc Try.prog W 0 (fun _ => true) true 30 v d p) : ∃ r : Mv, v = mo r ∧ i64M r := by
  obtain ⟨v0, v1, v2, v3, y0, y1, y2, y3, n, rfl, _, _, h0, h1, h2, h3⟩ := Joins.open_agg4 Try.underlying30 (by kernel_rfl) (by kernel_rfl) hval h
  obtain ⟨x, e0, _, w0⟩ := DataW.trod_int Try.underlying3 h0
  obtain ⟨y, e1, _, w1⟩ := DataW.trod_int Try.underlying3 h1
  obtain ⟨z, e2, _, w2⟩ := DataW.trod_int Try.underlying3 h2
  obtain ⟨u, e3, _, w3⟩ := DataW.trod_int Try.underlying3 h3
  simp only [List.cons.injEq, and_true] at e0 e1 e2 e3
  subst e0; subst e1; subst e2; subst e3
  exact ⟨⟨x, y, z, u⟩, rfl, bounds_i64 w0, bounds_i64 w1, bounds_i64 w2, bounds_i64 w3⟩
end Go.Proofs.Ytdagkbgobnaijaa
namespace Go.Proofs.Ytdagkbgobnaijaa
open Go.RowKit Ph

set_option maxHeartbeats 12800000 in
set_option maxRecDepth 100000 in
theorem core_FnExactEndMarking (ax bx cx dx : Value) (hx : H) (zx : List Int) (put : Bool) (gh : H) (gz : List Int) (nn : Int) (ok : Bool) (w : World) (hzx : HeapAt w ax bx cx hx) (hyx : IntsAt w dx zx) (hm : wtH hx + zx.length ≤ 1048576) (hrs : wtH gh + gz.length ≤ 2000)
    (hS : ∀ (w : World) (ax bx cx dx : Value), HeapAt w ax bx cx hx → IntsAt w dx zx → Calls Try.prog 38 #[mv ax bx cx dx, .bool put] w (EndMI gh gz nn ok w))
    (hI : ∀ (w : World) (ax bx cx dx : Value), HeapAt w ax bx cx hx → IntsAt w dx zx → Calls Try.prog 39 #[mv ax bx cx dx, .bool put] w (EndMI gh gz nn ok w)) :
    Calls Try.prog 6 #[mv ax bx cx dx, .bool put] w fun e w' => e = .returned (.bool true) ∧ Below w.heap.size w w' := by
  have HZ := Lib.hid hzx; have HY := Lib.hid hyx
  have HS := Lib.hid hS; have HI := Lib.hid hI
  clear hS hI
  obtain ⟨paA, qaA, rfl⟩ := hzx.f.shape
  obtain ⟨pbA, qbA, rfl⟩ := hzx.l.shape
  obtain ⟨pcA, qcA, rfl⟩ := hzx.r.shape
  obtain ⟨pdA, qdA, rfl⟩ := hyx.shape
  clear hzx hyx
  have HSZ : Hid (szM hx ≤ 1048576 ∧ hx.f.length ≤ 1048576) := by unfold Hid szM; have := hm; unfold wtH wt at this; omega
  have HRS : Hid (wtH gh ≤ 1048576 ∧ gz.length ≤ 1048576) := by unfold Hid; omega
  have HRZ : Hid (szM gh ≤ 1048576 ∧ gh.f.length ≤ 1048576) := by unfold Hid szM; have := hrs; unfold wtH wt at this; omega
  clear hrs
  generalize hwt : wtH hx = wt at *
  have HWT := Lib.hid hwt; clear hwt
  generalize hnnf : hx.f.length = nf at *
  have HNnf := Lib.hid hnnf; clear hnnf
  generalize hnnl : hx.l.length = nl at *
  have HNnl := Lib.hid hnnl; clear hnnl
  generalize hnnr : hx.r.length = nr at *
  have HNnr := Lib.hid hnnr; clear hnnr
  generalize hnnc : zx.length = nc at *
  have HNnc := Lib.hid hnnc; clear hnnc
  generalize hsz : szM hx = sz at *
  have HSM := Lib.hid hsz; clear hsz
  have HM : Hid (wtH hx ≤ 1048576) := by unfold Hid; rw [HWT.out]; omega
  have HMC : Hid (zx.length ≤ 1048576) := by unfold Hid; rw [HNnc.out]; omega
  generalize hngf : gh.f.length = gf at *
  have HNgf := Lib.hid hngf; clear hngf
  generalize hngl : gh.l.length = gl at *
  have HNgl := Lib.hid hngl; clear hngl
  generalize hngr : gh.r.length = gr at *
  have HNgr := Lib.hid hngr; clear hngr
  generalize hngc : gz.length = gc at *
  have HNgc := Lib.hid hngc; clear hngc
  generalize hszg : szM gh = szg at *
  have HSMg := Lib.hid hszg; clear hszg
  have hl0 : ¬ ((1048576 : Int) - (wt : Int) - (nc : Int)) < 0 := by omega
  have e1 : (ok != ok) = false := by simp
  have e3 : (nn != nn) = false := by simp
  have L := below1 w (.cells (m4 (.slice paA nf qaA) (.slice pbA nl qbA) (.slice pcA nr qcA) (.slice pdA nc qdA)) 28)
  have Rx : Row _ w.heap.size 28 (m4 (.slice paA nf qaA) (.slice pbA nl qbA) (.slice pcA nr qcA) (.slice pdA nc qdA)) := Row.new w _ _
  go_enter Try.func6, Try.ntmps6
  go_wp2_with fail
  refine (c_szMarking_yes (.slice paA nf qaA) (.slice pbA nl qbA) (.slice pcA nr qcA) (.slice pdA nc qdA) hx zx 1048576 _ (HeapAt.below HZ.out L) (IntsAt.below HY.out L) (by omega) (by rw [HWT.out, HNnc.out]; omega)).mono ?_
  rintro e ws ⟨rfl, hb⟩
  rw [HWT.out, HNnc.out]
  replace Rx := Row.below Rx hb
  have hs0 := hb.size
  try simp only [World.size_alloc] at hs0
  replace L := bst L hb L.size
  clear hb
  have c0x := Row.cell Rx 0
  have c1x := Row.cell Rx 1
  have c2x := Row.cell Rx 2
  have c3x := Row.cell Rx 3
  have ltx := Row.lt Rx
  go_wp2_with fail
  clear c0x c1x c2x c3x ltx
  refine (c_toMarking (.slice paA nf qaA) (.slice pbA nl qbA) (.slice pcA nr qcA) (.slice pdA nc qdA) hx zx _ (HeapAt.below HZ.out L) (IntsAt.below HY.out L) HM.out HMC.out).mono ?_
  rintro e wW0 ⟨aQ, bQ, cQ, dQ, rfl, ho, hb⟩
  try simp only [World.size_alloc] at ho
  have hsh := ho.shapes
  simp only [HNnf.out, HNnl.out, HNnr.out, HNnc.out] at hsh
  obtain ⟨⟨paQ, qaQ, rfl⟩, ⟨pbQ, qbQ, rfl⟩, ⟨pcQ, qcQ, rfl⟩, ⟨pdQ, qdQ, rfl⟩⟩ := hsh
  replace Rx := Row.below Rx hb
  have hs1 := hb.size
  try simp only [World.size_alloc] at hs1
  replace L := bst L hb L.size
  clear hb
  have OQ := ho
  clear ho
  have c0x := Row.cell Rx 0
  have c1x := Row.cell Rx 1
  have c2x := Row.cell Rx 2
  have c3x := Row.cell Rx 3
  have ltx := Row.lt Rx
  go_wp2_with fail
  clear c0x c1x c2x c3x ltx
  refine (HS.out _ (.slice paQ nf qaQ) (.slice pbQ nl qbQ) (.slice pcQ nr qcQ) (.slice pdQ nc qdQ) OQ.heap OQ.cols).mono ?_
  rintro e wW ⟨aW, bW, cW, dW, rfl, ho, hb⟩
  try simp only [World.size_alloc] at ho
  have hsh := ho.shapes
  simp only [HNgf.out, HNgl.out, HNgr.out, HNgc.out] at hsh
  obtain ⟨⟨paW, qaW, rfl⟩, ⟨pbW, qbW, rfl⟩, ⟨pcW, qcW, rfl⟩, ⟨pdW, qdW, rfl⟩⟩ := hsh
  replace Rx := Row.below Rx hb
  replace OQ := OwnM.below OQ hb
  have hs2 := hb.size
  try simp only [World.size_alloc] at hs2
  replace L := bst L hb L.size
  clear hb
  have OW := ho
  clear ho
  clear OQ
  have c0x := Row.cell Rx 0
  have c1x := Row.cell Rx 1
  have c2x := Row.cell Rx 2
  have c3x := Row.cell Rx 3
  have ltx := Row.lt Rx
  go_wp2_with fail
  clear c0x c1x c2x c3x ltx
  replace Rx := Row.alloc Rx (.cells (m4 (.slice paW gf qaW) (.slice pbW gl qbW) (.slice pcW gr qcW) (.slice pdW gc qdW)) 34)
  have RW := Row.new wW 34 (m4 (.slice paW gf qaW) (.slice pbW gl qbW) (.slice pcW gr qcW) (.slice pdW gc qdW))
  replace OW := OwnM.below OW (below1 _ (.cells (m4 (.slice paW gf qaW) (.slice pbW gl qbW) (.slice pcW gr qcW) (.slice pdW gc qdW)) 34))
  replace L := Below.alloc L L.size (.cells (m4 (.slice paW gf qaW) (.slice pbW gl qbW) (.slice pcW gr qcW) (.slice pdW gc qdW)) 34)
  refine (c_toMarking (.slice paA nf qaA) (.slice pbA nl qbA) (.slice pcA nr qcA) (.slice pdA nc qdA) hx zx _ (HeapAt.below HZ.out L) (IntsAt.below HY.out L) HM.out HMC.out).mono ?_
  rintro e wX ⟨aX, bX, cX, dX, rfl, ho, hb⟩
  try simp only [World.size_alloc] at ho
  have hsh := ho.shapes
  simp only [HNnf.out, HNnl.out, HNnr.out, HNnc.out] at hsh
  obtain ⟨⟨paX, qaX, rfl⟩, ⟨pbX, qbX, rfl⟩, ⟨pcX, qcX, rfl⟩, ⟨pdX, qdX, rfl⟩⟩ := hsh
  replace Rx := Row.below Rx hb
  replace RW := Row.below RW hb
  replace OW := OwnM.below OW hb
  have hs3 := hb.size
  try simp only [World.size_alloc] at hs3
  replace L := bst L hb L.size
  clear hb
  have OX := ho
  clear ho
  have c0x := Row.cell Rx 0
  have c1x := Row.cell Rx 1
  have c2x := Row.cell Rx 2
  have c3x := Row.cell Rx 3
  have ltx := Row.lt Rx
  have c0W := Row.cell RW 0
  have c1W := Row.cell RW 1
  have c2W := Row.cell RW 2
  have c3W := Row.cell RW 3
  have ltW := Row.lt RW
  go_wp2_with fail
  clear c0x c1x c2x c3x ltx c0W c1W c2W c3W ltW
  replace Rx := Row.alloc Rx (.cells (m4 (.slice paX nf qaX) (.slice pbX nl qbX) (.slice pcX nr qcX) (.slice pdX nc qdX)) 34)
  replace RW := Row.alloc RW (.cells (m4 (.slice paX nf qaX) (.slice pbX nl qbX) (.slice pcX nr qcX) (.slice pdX nc qdX)) 34)
  have RX := Row.new wX 34 (m4 (.slice paX nf qaX) (.slice pbX nl qbX) (.slice pcX nr qcX) (.slice pdX nc qdX))
  replace OW := OwnM.below OW (below1 _ (.cells (m4 (.slice paX nf qaX) (.slice pbX nl qbX) (.slice pcX nr qcX) (.slice pdX nc qdX)) 34))
  replace OX := OwnM.below OX (below1 _ (.cells (m4 (.slice paX nf qaX) (.slice pbX nl qbX) (.slice pcX nr qcX) (.slice pdX nc qdX)) 34))
  replace L := Below.alloc L L.size (.cells (m4 (.slice paX nf qaX) (.slice pbX nl qbX) (.slice pcX nr qcX) (.slice pdX nc qdX)) 34)
  refine (HI.out _ (.slice paX nf qaX) (.slice pbX nl qbX) (.slice pcX nr qcX) (.slice pdX nc qdX) OX.heap OX.cols).mono ?_
  rintro e wG ⟨aG, bG, cG, dG, rfl, ho, hb⟩
  try simp only [World.size_alloc] at ho
  have hsh := ho.shapes
  simp only [HNgf.out, HNgl.out, HNgr.out, HNgc.out] at hsh
  obtain ⟨⟨paG, qaG, rfl⟩, ⟨pbG, qbG, rfl⟩, ⟨pcG, qcG, rfl⟩, ⟨pdG, qdG, rfl⟩⟩ := hsh
  replace Rx := Row.below Rx hb
  replace RW := Row.below RW hb
  replace RX := Row.below RX hb
  replace OW := OwnM.below OW hb
  replace OX := OwnM.below OX hb
  have hs4 := hb.size
  try simp only [World.size_alloc] at hs4
  replace L := bst L hb L.size
  clear hb
  have OG := ho
  clear ho
  have c0x := Row.cell Rx 0
  have c1x := Row.cell Rx 1
  have c2x := Row.cell Rx 2
  have c3x := Row.cell Rx 3
  have ltx := Row.lt Rx
  have c0W := Row.cell RW 0
  have c1W := Row.cell RW 1
  have c2W := Row.cell RW 2
  have c3W := Row.cell RW 3
  have ltW := Row.lt RW
  have c0X := Row.cell RX 0
  have c1X := Row.cell RX 1
  have c2X := Row.cell RX 2
  have c3X := Row.cell RX 3
  have ltX := Row.lt RX
  go_wp2_with fail
  clear c0x c1x c2x c3x ltx c0W c1W c2W c3W ltW c0X c1X c2X c3X ltX
  replace Rx := Row.alloc Rx (.cells (m4 (.slice paG gf qaG) (.slice pbG gl qbG) (.slice pcG gr qcG) (.slice pdG gc qdG)) 34)
  replace RW := Row.alloc RW (.cells (m4 (.slice paG gf qaG) (.slice pbG gl qbG) (.slice pcG gr qcG) (.slice pdG gc qdG)) 34)
  replace RX := Row.alloc RX (.cells (m4 (.slice paG gf qaG) (.slice pbG gl qbG) (.slice pcG gr qcG) (.slice pdG gc qdG)) 34)
  have RG := Row.new wG 34 (m4 (.slice paG gf qaG) (.slice pbG gl qbG) (.slice pcG gr qcG) (.slice pdG gc qdG))
  replace OW := OwnM.below OW (below1 _ (.cells (m4 (.slice paG gf qaG) (.slice pbG gl qbG) (.slice pcG gr qcG) (.slice pdG gc qdG)) 34))
  replace OX := OwnM.below OX (below1 _ (.cells (m4 (.slice paG gf qaG) (.slice pbG gl qbG) (.slice pcG gr qcG) (.slice pdG gc qdG)) 34))
  replace OG := OwnM.below OG (below1 _ (.cells (m4 (.slice paG gf qaG) (.slice pbG gl qbG) (.slice pcG gr qcG) (.slice pdG gc qdG)) 34))
  replace L := Below.alloc L L.size (.cells (m4 (.slice paG gf qaG) (.slice pbG gl qbG) (.slice pcG gr qcG) (.slice pdG gc qdG)) 34)
  refine (c_eqMarking (.slice paG gf qaG) (.slice pbG gl qbG) (.slice pcG gr qcG) (.slice pdG gc qdG) (.slice paW gf qaW) (.slice pbW gl qbW) (.slice pcW gr qcW) (.slice pdW gc qdW) gh gz _ OG.heap OG.cols OW.heap OW.cols HRS.out.1 (by rw [HNgc.out]; exact HRS.out.2)).mono ?_
  rintro e w1e ⟨rfl, hb⟩
  replace Rx := Row.below Rx hb
  replace RW := Row.below RW hb
  replace RX := Row.below RX hb
  replace RG := Row.below RG hb
  replace OW := OwnM.below OW hb
  replace OX := OwnM.below OX hb
  replace OG := OwnM.below OG hb
  have hs5 := hb.size
  try simp only [World.size_alloc] at hs5
  replace L := bst L hb L.size
  clear hb
  have c0x := Row.cell Rx 0
  have c1x := Row.cell Rx 1
  have c2x := Row.cell Rx 2
  have c3x := Row.cell Rx 3
  have ltx := Row.lt Rx
  have c0W := Row.cell RW 0
  have c1W := Row.cell RW 1
  have c2W := Row.cell RW 2
  have c3W := Row.cell RW 3
  have ltW := Row.lt RW
  have c0X := Row.cell RX 0
  have c1X := Row.cell RX 1
  have c2X := Row.cell RX 2
  have c3X := Row.cell RX 3
  have ltX := Row.lt RX
  have c0G := Row.cell RG 0
  have c1G := Row.cell RG 1
  have c2G := Row.cell RG 2
  have c3G := Row.cell RG 3
  have ltG := Row.lt RG
  go_wp2_with fail
  have RR0 : w1e.drew.cell? ⟨w.heap.size, 0, none⟩ = some (.slice paA nf qaA) := Row.cell Rx 0
  have RR1 : w1e.drew.cell? ⟨w.heap.size, 1, none⟩ = some (.slice pbA nl qbA) := Row.cell Rx 1
  have RR2 : w1e.drew.cell? ⟨w.heap.size, 2, none⟩ = some (.slice pcA nr qcA) := Row.cell Rx 2
  have RR3 : w1e.drew.cell? ⟨w.heap.size, 3, none⟩ = some (.slice pdA nc qdA) := Row.cell Rx 3
  have RX0 : w1e.drew.cell? ⟨wX.heap.size, 0, none⟩ = some (.slice paX nf qaX) := Row.cell RX 0
  have RX1 : w1e.drew.cell? ⟨wX.heap.size, 1, none⟩ = some (.slice pbX nl qbX) := Row.cell RX 1
  have RX2 : w1e.drew.cell? ⟨wX.heap.size, 2, none⟩ = some (.slice pcX nr qcX) := Row.cell RX 2
  have RX3 : w1e.drew.cell? ⟨wX.heap.size, 3, none⟩ = some (.slice pdX nc qdX) := Row.cell RX 3
  have BD := below_drew (Below.refl w1e.heap.size w1e)
  have IZ := Lib.hid (HeapAt.below HZ.out (below_drew L))
  have IY := Lib.hid (IntsAt.below HY.out (below_drew L))
  have IX := Lib.hid (OX.heap.below BD)
  have IC := Lib.hid (OX.cols.below BD)
  clear c0x c1x c2x c3x ltx c0W c1W c2W c3W ltW c0X c1X c2X c3X ltX c0G c1G c2G c3G ltG
  go_region_held3 (fun w' => w'.cell? ⟨w.heap.size, 0, none⟩ = some (.slice paA nf qaA) ∧ w'.cell? ⟨w.heap.size, 1, none⟩ = some (.slice pbA nl qbA) ∧ w'.cell? ⟨w.heap.size, 2, none⟩ = some (.slice pcA nr qcA) ∧ w'.cell? ⟨w.heap.size, 3, none⟩ = some (.slice pdA nc qdA) ∧ w'.cell? ⟨wX.heap.size, 0, none⟩ = some (.slice paX nf qaX) ∧ w'.cell? ⟨wX.heap.size, 1, none⟩ = some (.slice pbX nl qbX) ∧ w'.cell? ⟨wX.heap.size, 2, none⟩ = some (.slice pcX nr qcX) ∧ w'.cell? ⟨wX.heap.size, 3, none⟩ = some (.slice pdX nc qdX) ∧ Below w1e.heap.size w1e w')
    (first
      | (with_reducible exact ⟨RR0, RR1, RR2, RR3, RX0, RX1, RX2, RX3, BD⟩)
      | (go_split_ands
         exact ⟨cellBelow hbk (Nat.le_refl _) (by assumption), cellBelow hbk (Nat.le_refl _) (by assumption), cellBelow hbk (Nat.le_refl _) (by assumption), cellBelow hbk (Nat.le_refl _) (by assumption), cellBelow hbk (Nat.le_refl _) (by assumption), cellBelow hbk (Nat.le_refl _) (by assumption), cellBelow hbk (Nat.le_refl _) (by assumption), cellBelow hbk (Nat.le_refl _) (by assumption), bst (by assumption) hbk (Below.size (by assumption))⟩)
      | (go_split_ands; refine ⟨?_, ?_, ?_, ?_, ?_, ?_, ?_, ?_, ?_⟩ <;> assumption))
    (first
      | (go_at_call 17; refine (c_toMarking (.slice paA nf qaA) (.slice pbA nl qbA) (.slice pcA nr qcA) (.slice pdA nc qdA) hx zx _ IZ.out IY.out HM.out HMC.out).mono ?_; rintro e wxd1 ⟨aD, bD, cD, dD, rfl, hoD, hbk⟩; have OD := Lib.hid hoD.heap; have OE := Lib.hid hoD.cols; have XD := Lib.hid (IX.out.below hbk); have XE := Lib.hid (IC.out.below hbk); clear hoD)
      | (go_at_call 20; refine (c_eqMarking _ _ _ _ _ _ _ _ hx zx _ XD.out XE.out OD.out OE.out HM.out HMC.out).mono ?_; rintro e wxd2 ⟨rfl, hbk⟩))
  have hb : Below w1e.heap.size w1e wxd2 := by go_split_ands; assumption
  clear OD XD IZ IX OE XE IY IC RR0 RX0 RR1 RX1 RR2 RX2 RR3 RX3 BD
  replace Rx := Row.below Rx hb
  replace RW := Row.below RW hb
  replace RX := Row.below RX hb
  replace RG := Row.below RG hb
  replace OW := OwnM.below OW hb
  replace OX := OwnM.below OX hb
  replace OG := OwnM.below OG hb
  have hs6 := hb.size
  try simp only [World.size_alloc] at hs6
  replace L := bst L hb L.size
  clear hb
  have c0x := Row.cell Rx 0
  have c1x := Row.cell Rx 1
  have c2x := Row.cell Rx 2
  have c3x := Row.cell Rx 3
  have ltx := Row.lt Rx
  have c0W := Row.cell RW 0
  have c1W := Row.cell RW 1
  have c2W := Row.cell RW 2
  have c3W := Row.cell RW 3
  have ltW := Row.lt RW
  have c0X := Row.cell RX 0
  have c1X := Row.cell RX 1
  have c2X := Row.cell RX 2
  have c3X := Row.cell RX 3
  have ltX := Row.lt RX
  have c0G := Row.cell RG 0
  have c1G := Row.cell RG 1
  have c2G := Row.cell RG 2
  have c3G := Row.cell RG 3
  have ltG := Row.lt RG
  go_wp2_with fail
  clear c0x c1x c2x c3x ltx c0W c1W c2W c3W ltW c0X c1X c2X c3X ltX c0G c1G c2G c3G ltG
  refine (c_markMarking _ _ (.slice paX nf qaX) (.slice pbX nl qbX) (.slice pcX nr qcX) (.slice pdX nc qdX) hx zx 1 _ OX (by omega) (by rw [HSM.out]; have := HSZ.out.1; have := HMC.out; omega) (by rw [HNnf.out]; have := HSZ.out.2; omega) (by omega)).mono ?_
  rintro e wmx ⟨rfl, ho, hch⟩
  rw [HSM.out, HNnc.out]
  replace Rx := Row.chg Rx hch (by omega)
  replace RW := Row.chg RW hch (by omega)
  replace RX := Row.chg RX hch (by omega)
  replace RG := Row.chg RG hch (by omega)
  replace OW := OwnM.chg OW hch (by omega)
  replace OG := OwnM.chg OG hch (by omega)
  have hs7 := hch.size
  replace L := below_chg L hch (by omega) L.size
  clear hch
  clear OX ho
  have c0x := Row.cell Rx 0
  have c1x := Row.cell Rx 1
  have c2x := Row.cell Rx 2
  have c3x := Row.cell Rx 3
  have ltx := Row.lt Rx
  have c0W := Row.cell RW 0
  have c1W := Row.cell RW 1
  have c2W := Row.cell RW 2
  have c3W := Row.cell RW 3
  have ltW := Row.lt RW
  have c0X := Row.cell RX 0
  have c1X := Row.cell RX 1
  have c2X := Row.cell RX 2
  have c3X := Row.cell RX 3
  have ltX := Row.lt RX
  have c0G := Row.cell RG 0
  have c1G := Row.cell RG 1
  have c2G := Row.cell RG 2
  have c3G := Row.cell RG 3
  have ltG := Row.lt RG
  go_wp2_with fail
  clear c0x c1x c2x c3x ltx c0W c1W c2W c3W ltW c0X c1X c2X c3X ltX c0G c1G c2G c3G ltG
  refine (c_eqMarking (.slice paG gf qaG) (.slice pbG gl qbG) (.slice pcG gr qcG) (.slice pdG gc qdG) (.slice paW gf qaW) (.slice pbW gl qbW) (.slice pcW gr qcW) (.slice pdW gc qdW) gh gz _ OG.heap OG.cols OW.heap OW.cols HRS.out.1 (by rw [HNgc.out]; exact HRS.out.2)).mono ?_
  rintro e w2e ⟨rfl, hb⟩
  replace Rx := Row.below Rx hb
  replace RW := Row.below RW hb
  replace RX := Row.below RX hb
  replace RG := Row.below RG hb
  replace OW := OwnM.below OW hb
  replace OG := OwnM.below OG hb
  have hs8 := hb.size
  try simp only [World.size_alloc] at hs8
  replace L := bst L hb L.size
  clear hb
  have c0x := Row.cell Rx 0
  have c1x := Row.cell Rx 1
  have c2x := Row.cell Rx 2
  have c3x := Row.cell Rx 3
  have ltx := Row.lt Rx
  have c0W := Row.cell RW 0
  have c1W := Row.cell RW 1
  have c2W := Row.cell RW 2
  have c3W := Row.cell RW 3
  have ltW := Row.lt RW
  have c0X := Row.cell RX 0
  have c1X := Row.cell RX 1
  have c2X := Row.cell RX 2
  have c3X := Row.cell RX 3
  have ltX := Row.lt RX
  have c0G := Row.cell RG 0
  have c1G := Row.cell RG 1
  have c2G := Row.cell RG 2
  have c3G := Row.cell RG 3
  have ltG := Row.lt RG
  go_wp2_with fail
  clear c0x c1x c2x c3x ltx c0W c1W c2W c3W ltW c0X c1X c2X c3X ltX c0G c1G c2G c3G ltG
  refine (c_markMarking _ _ (.slice paG gf qaG) (.slice pbG gl qbG) (.slice pcG gr qcG) (.slice pdG gc qdG) gh gz 1 _ OG (by omega) (by rw [HSMg.out, HNgc.out]; have := HRZ.out.1; have := HRS.out.2; omega) (by rw [HNgf.out]; have := HRZ.out.2; omega) (by omega)).mono ?_
  rintro e wmG ⟨rfl, ho, hch⟩
  rw [HSMg.out, HNgc.out] at ho ⊢
  replace Rx := Row.chg Rx hch (by omega)
  replace RW := Row.chg RW hch (by omega)
  replace RX := Row.chg RX hch (by omega)
  replace RG := Row.chg RG hch (by omega)
  replace OW := OwnM.chg OW hch (by omega)
  have hs9 := hch.size
  replace L := below_chg L hch (by omega) L.size
  clear hch
  replace OG := ho
  clear ho
  have c0x := Row.cell Rx 0
  have c1x := Row.cell Rx 1
  have c2x := Row.cell Rx 2
  have c3x := Row.cell Rx 3
  have ltx := Row.lt Rx
  have c0W := Row.cell RW 0
  have c1W := Row.cell RW 1
  have c2W := Row.cell RW 2
  have c3W := Row.cell RW 3
  have ltW := Row.lt RW
  have c0X := Row.cell RX 0
  have c1X := Row.cell RX 1
  have c2X := Row.cell RX 2
  have c3X := Row.cell RX 3
  have ltX := Row.lt RX
  have c0G := Row.cell RG 0
  have c1G := Row.cell RG 1
  have c2G := Row.cell RG 2
  have c3G := Row.cell RG 3
  have ltG := Row.lt RG
  go_wp2_with fail
  clear c0x c1x c2x c3x ltx c0W c1W c2W c3W ltW c0X c1X c2X c3X ltX c0G c1G c2G c3G ltG
  refine (c_heldMarking (.slice paG gf qaG) (.slice pbG gl qbG) (.slice pcG gr qcG) (.slice pdG gc qdG) gh gc 1 _ OG.heap (by rw [HSMg.out]; exact OG.cols) (by omega) (by rw [HSMg.out]; have := HRZ.out.1; have := HRS.out.2; omega) (by rw [HNgf.out]; have := HRZ.out.2; omega)).mono ?_
  rintro e wh1 ⟨rfl, hb⟩
  rw [HSMg.out]
  replace Rx := Row.below Rx hb
  replace RW := Row.below RW hb
  replace RX := Row.below RX hb
  replace RG := Row.below RG hb
  replace OW := OwnM.below OW hb
  replace OG := OwnM.below OG hb
  have hs10 := hb.size
  try simp only [World.size_alloc] at hs10
  replace L := bst L hb L.size
  clear hb
  have c0x := Row.cell Rx 0
  have c1x := Row.cell Rx 1
  have c2x := Row.cell Rx 2
  have c3x := Row.cell Rx 3
  have ltx := Row.lt Rx
  have c0W := Row.cell RW 0
  have c1W := Row.cell RW 1
  have c2W := Row.cell RW 2
  have c3W := Row.cell RW 3
  have ltW := Row.lt RW
  have c0X := Row.cell RX 0
  have c1X := Row.cell RX 1
  have c2X := Row.cell RX 2
  have c3X := Row.cell RX 3
  have ltX := Row.lt RX
  have c0G := Row.cell RG 0
  have c1G := Row.cell RG 1
  have c2G := Row.cell RG 2
  have c3G := Row.cell RG 3
  have ltG := Row.lt RG
  go_wp2_with fail
  clear c0x c1x c2x c3x ltx c0W c1W c2W c3W ltW c0X c1X c2X c3X ltX c0G c1G c2G c3G ltG
  refine (c_toMarking (.slice paA nf qaA) (.slice pbA nl qbA) (.slice pcA nr qcA) (.slice pdA nc qdA) hx zx _ (HeapAt.below HZ.out L) (IntsAt.below HY.out L) HM.out HMC.out).mono ?_
  rintro e wH0 ⟨aT, bT, cT, dT, rfl, ho, hb⟩
  try simp only [World.size_alloc] at ho
  have hsh := ho.shapes
  simp only [HNnf.out, HNnl.out, HNnr.out, HNnc.out] at hsh
  obtain ⟨⟨paT, qaT, rfl⟩, ⟨pbT, qbT, rfl⟩, ⟨pcT, qcT, rfl⟩, ⟨pdT, qdT, rfl⟩⟩ := hsh
  replace Rx := Row.below Rx hb
  replace RW := Row.below RW hb
  replace RX := Row.below RX hb
  replace RG := Row.below RG hb
  replace OW := OwnM.below OW hb
  replace OG := OwnM.below OG hb
  have hs11 := hb.size
  try simp only [World.size_alloc] at hs11
  replace L := bst L hb L.size
  clear hb
  have OT := ho
  clear ho
  have c0x := Row.cell Rx 0
  have c1x := Row.cell Rx 1
  have c2x := Row.cell Rx 2
  have c3x := Row.cell Rx 3
  have ltx := Row.lt Rx
  have c0W := Row.cell RW 0
  have c1W := Row.cell RW 1
  have c2W := Row.cell RW 2
  have c3W := Row.cell RW 3
  have ltW := Row.lt RW
  have c0X := Row.cell RX 0
  have c1X := Row.cell RX 1
  have c2X := Row.cell RX 2
  have c3X := Row.cell RX 3
  have ltX := Row.lt RX
  have c0G := Row.cell RG 0
  have c1G := Row.cell RG 1
  have c2G := Row.cell RG 2
  have c3G := Row.cell RG 3
  have ltG := Row.lt RG
  go_wp2_with fail
  clear c0x c1x c2x c3x ltx c0W c1W c2W c3W ltW c0X c1X c2X c3X ltX c0G c1G c2G c3G ltG
  refine (HI.out _ (.slice paT nf qaT) (.slice pbT nl qbT) (.slice pcT nr qcT) (.slice pdT nc qdT) OT.heap OT.cols).mono ?_
  rintro e wH ⟨aH, bH, cH, dH, rfl, ho, hb⟩
  try simp only [World.size_alloc] at ho
  have hsh := ho.shapes
  simp only [HNgf.out, HNgl.out, HNgr.out, HNgc.out] at hsh
  obtain ⟨⟨paH, qaH, rfl⟩, ⟨pbH, qbH, rfl⟩, ⟨pcH, qcH, rfl⟩, ⟨pdH, qdH, rfl⟩⟩ := hsh
  replace Rx := Row.below Rx hb
  replace RW := Row.below RW hb
  replace RX := Row.below RX hb
  replace RG := Row.below RG hb
  replace OW := OwnM.below OW hb
  replace OG := OwnM.below OG hb
  replace OT := OwnM.below OT hb
  have hs12 := hb.size
  try simp only [World.size_alloc] at hs12
  replace L := bst L hb L.size
  clear hb
  have OH := ho
  clear ho
  clear OT
  have c0x := Row.cell Rx 0
  have c1x := Row.cell Rx 1
  have c2x := Row.cell Rx 2
  have c3x := Row.cell Rx 3
  have ltx := Row.lt Rx
  have c0W := Row.cell RW 0
  have c1W := Row.cell RW 1
  have c2W := Row.cell RW 2
  have c3W := Row.cell RW 3
  have ltW := Row.lt RW
  have c0X := Row.cell RX 0
  have c1X := Row.cell RX 1
  have c2X := Row.cell RX 2
  have c3X := Row.cell RX 3
  have ltX := Row.lt RX
  have c0G := Row.cell RG 0
  have c1G := Row.cell RG 1
  have c2G := Row.cell RG 2
  have c3G := Row.cell RG 3
  have ltG := Row.lt RG
  go_wp2_with fail
  clear c0x c1x c2x c3x ltx c0W c1W c2W c3W ltW c0X c1X c2X c3X ltX c0G c1G c2G c3G ltG
  replace Rx := Row.alloc Rx (.cells (m4 (.slice paH gf qaH) (.slice pbH gl qbH) (.slice pcH gr qcH) (.slice pdH gc qdH)) 34)
  replace RW := Row.alloc RW (.cells (m4 (.slice paH gf qaH) (.slice pbH gl qbH) (.slice pcH gr qcH) (.slice pdH gc qdH)) 34)
  replace RX := Row.alloc RX (.cells (m4 (.slice paH gf qaH) (.slice pbH gl qbH) (.slice pcH gr qcH) (.slice pdH gc qdH)) 34)
  replace RG := Row.alloc RG (.cells (m4 (.slice paH gf qaH) (.slice pbH gl qbH) (.slice pcH gr qcH) (.slice pdH gc qdH)) 34)
  have RH := Row.new wH 34 (m4 (.slice paH gf qaH) (.slice pbH gl qbH) (.slice pcH gr qcH) (.slice pdH gc qdH))
  replace OW := OwnM.below OW (below1 _ (.cells (m4 (.slice paH gf qaH) (.slice pbH gl qbH) (.slice pcH gr qcH) (.slice pdH gc qdH)) 34))
  replace OG := OwnM.below OG (below1 _ (.cells (m4 (.slice paH gf qaH) (.slice pbH gl qbH) (.slice pcH gr qcH) (.slice pdH gc qdH)) 34))
  replace OH := OwnM.below OH (below1 _ (.cells (m4 (.slice paH gf qaH) (.slice pbH gl qbH) (.slice pcH gr qcH) (.slice pdH gc qdH)) 34))
  replace L := Below.alloc L L.size (.cells (m4 (.slice paH gf qaH) (.slice pbH gl qbH) (.slice pcH gr qcH) (.slice pdH gc qdH)) 34)
  refine (c_eqMarking (.slice paH gf qaH) (.slice pbH gl qbH) (.slice pcH gr qcH) (.slice pdH gc qdH) (.slice paW gf qaW) (.slice pbW gl qbW) (.slice pcW gr qcW) (.slice pdW gc qdW) gh gz _ OH.heap OH.cols OW.heap OW.cols HRS.out.1 (by rw [HNgc.out]; exact HRS.out.2)).mono ?_
  rintro e w3e ⟨rfl, hb⟩
  replace Rx := Row.below Rx hb
  replace RW := Row.below RW hb
  replace RX := Row.below RX hb
  replace RG := Row.below RG hb
  replace RH := Row.below RH hb
  replace OW := OwnM.below OW hb
  replace OG := OwnM.below OG hb
  replace OH := OwnM.below OH hb
  have hs13 := hb.size
  try simp only [World.size_alloc] at hs13
  replace L := bst L hb L.size
  clear hb
  have c0x := Row.cell Rx 0
  have c1x := Row.cell Rx 1
  have c2x := Row.cell Rx 2
  have c3x := Row.cell Rx 3
  have ltx := Row.lt Rx
  have c0W := Row.cell RW 0
  have c1W := Row.cell RW 1
  have c2W := Row.cell RW 2
  have c3W := Row.cell RW 3
  have ltW := Row.lt RW
  have c0X := Row.cell RX 0
  have c1X := Row.cell RX 1
  have c2X := Row.cell RX 2
  have c3X := Row.cell RX 3
  have ltX := Row.lt RX
  have c0G := Row.cell RG 0
  have c1G := Row.cell RG 1
  have c2G := Row.cell RG 2
  have c3G := Row.cell RG 3
  have ltG := Row.lt RG
  have c0H := Row.cell RH 0
  have c1H := Row.cell RH 1
  have c2H := Row.cell RH 2
  have c3H := Row.cell RH 3
  have ltH := Row.lt RH
  go_wp2_with fail
  clear c0x c1x c2x c3x ltx c0W c1W c2W c3W ltW c0X c1X c2X c3X ltX c0G c1G c2G c3G ltG c0H c1H c2H c3H ltH
  refine (c_heldMarking (.slice paG gf qaG) (.slice pbG gl qbG) (.slice pcG gr qcG) (.slice pdG gc qdG) gh gc 1 _ OG.heap (by rw [HSMg.out]; exact OG.cols) (by omega) (by rw [HSMg.out]; have := HRZ.out.1; have := HRS.out.2; omega) (by rw [HNgf.out]; have := HRZ.out.2; omega)).mono ?_
  rintro e wh2 ⟨rfl, hb⟩
  rw [HSMg.out]
  replace Rx := Row.below Rx hb
  replace RW := Row.below RW hb
  replace RX := Row.below RX hb
  replace RG := Row.below RG hb
  replace RH := Row.below RH hb
  replace OW := OwnM.below OW hb
  replace OG := OwnM.below OG hb
  replace OH := OwnM.below OH hb
  have hs14 := hb.size
  try simp only [World.size_alloc] at hs14
  replace L := bst L hb L.size
  clear hb
  have c0x := Row.cell Rx 0
  have c1x := Row.cell Rx 1
  have c2x := Row.cell Rx 2
  have c3x := Row.cell Rx 3
  have ltx := Row.lt Rx
  have c0W := Row.cell RW 0
  have c1W := Row.cell RW 1
  have c2W := Row.cell RW 2
  have c3W := Row.cell RW 3
  have ltW := Row.lt RW
  have c0X := Row.cell RX 0
  have c1X := Row.cell RX 1
  have c2X := Row.cell RX 2
  have c3X := Row.cell RX 3
  have ltX := Row.lt RX
  have c0G := Row.cell RG 0
  have c1G := Row.cell RG 1
  have c2G := Row.cell RG 2
  have c3G := Row.cell RG 3
  have ltG := Row.lt RG
  have c0H := Row.cell RH 0
  have c1H := Row.cell RH 1
  have c2H := Row.cell RH 2
  have c3H := Row.cell RH 3
  have ltH := Row.lt RH
  go_wp2
  go_ret
  exact ⟨rfl, L⟩
set_option maxHeartbeats 1600000 in
set_option maxRecDepth 100000 in
theorem walk_FnExactEndMarking (ax bx cx dx : Value) (hx : H) (zx : List Int) (put : Bool) (w : World) (hzx : HeapAt w ax bx cx hx) (hyx : IntsAt w dx zx) (hfx : FitH hx) (hnx : zx.length ≤ 9223372036854775807) : Calls Try.prog 6 #[mv ax bx cx dx, .bool put] w fun e w' => e = .returned (.bool true) ∧ Below w.heap.size w w' := by
  by_cases hm : wtH hx + zx.length ≤ 1048576
  · exact core_FnExactEndMarking ax bx cx dx hx zx put (endM hx zx put).1 (endM hx zx put).2.1 ((endM hx zx put).2.2 : Int) (bothB hx zx) w hzx hyx hm (endM_wt hx zx put) (fun w a b c d h k => s_EndMarking a b c d hx zx put w h k) (fun w a b c d h k => c_EndMarking a b c d hx zx put w h k)
  · have HB0 := Lib.hid (below1 w (.cells (m4 ax bx cx dx) 28))
    have HA0 := Lib.hid (hzx.below HB0.out)
    have HF := Lib.hid hfx
    have HMM : Hid ((1048576 : Int) < (wtH hx : Int) + (zx.length : Int)) := by unfold Hid; omega
    have HY0 := Lib.hid (hyx.below HB0.out)
    have HNX := Lib.hid hnx
    obtain ⟨pdA, qdA, rfl⟩ := hyx.shape
    obtain ⟨paA, qaA, rfl⟩ := hzx.f.shape
    obtain ⟨pbA, qbA, rfl⟩ := hzx.l.shape
    obtain ⟨pcA, qcA, rfl⟩ := hzx.r.shape
    have HC := Lib.hid (c_szMarking_no _ _ _ _ hx zx 1048576 _ HA0.out HF.out HY0.out HNX.out (by omega) (by omega) HMM.out)
    clear hzx hyx hnx HNX HY0 HA0 hfx HF HMM hm
    generalize zx.length = nc at *
    generalize hx.f.length = nf at *
    generalize hx.l.length = nl at *
    generalize hx.r.length = nr at *
    go_enter Try.func6, Try.ntmps6
    go_wp2_with fail
    refine HC.out.mono ?_
    rintro e w1 ⟨rfl, hb1⟩
    have HB1 := Lib.hid (bst HB0.out hb1 HB0.out.size)
    clear hb1 HC
    go_wp2
    go_ret
    exact ⟨rfl, HB1.out⟩
end Go.Proofs.Ytdagkbgobnaijaa
namespace Go.Proofs.Ytdagkbgobnaijaa.xEndMarking
open Go.ChangeShapes Go.WideShapes Go.ChangeAt Go.RowKit

set_option maxRecDepth 100000 in
theorem contract (H : Type) (enc : TypeId × Value → H) (W : World) (base : Nat) (args : Array Value) (ds gs : List (DataW H)) (before : List MemPlace)
    (hval : ∀ (j : Nat) t v, Try.f6.params[j]? = some t → args[j]? = some v → Value.okWide Try.prog W .any base t v)
    (hW : DataW.Whole enc Try.prog Try.f6.params.toList Rows.fnExactEndMarkingSpec.vars false W args.toList ds gs before) :
    Calls Try.prog 6 args W fun e W' => ∃ v, e = .returned v ∧ Rows.fnExactEndMarkingSpec.post enc Try.prog Try.f6 false true false false W args v W' := by
  have hW' := hW
  obtain ⟨p, q, hA0, hV, rfl, hfz, hnd⟩ := hW
  have hA : DataW.TrodAll enc Try.prog W 0 (fun _ => true) true Try.f6.params.toList args.toList ds p := hA0
  have hpar : ∀ t ∈ Try.f6.params.toList, Try.prog.readableRec t = true ∧ t < Try.prog.types.size := by
    rw [Try.params6]; intro t ht; simp at ht; rcases ht with rfl | rfl <;> first | exact r_marking | exact r_bool
  rw [Try.params6] at hA hval
  obtain ⟨v0, vs0, d0, ds0, p0, q0, hargs, rfl, rfl, h0, r0⟩ := trodAll_cons hA
  obtain ⟨v1, vs1, d1, ds1, p1, q1, rfl, rfl, rfl, h1, r1⟩ := trodAll_cons r0
  obtain ⟨rfl, rfl, rfl⟩ := trodAll_nil r1
  obtain rfl : args = #[v0, v1] := by cases args; simp_all
  obtain ⟨rfl, rfl⟩ := trodVars_none hV
  obtain ⟨fa0, fb0, fc0, fd0, z0, y0, rfl, hz0, hy0, hn0, hm0⟩ := marking_of_arg (hval 0 28 v0 rfl rfl) h0
  obtain ⟨a1, rfl, rfl, rfl⟩ := open_bool Try.underlying4 (hval 1 4 v1 rfl rfl) h1
  refine (walk_FnExactEndMarking fa0 fb0 fc0 fd0 z0 y0 a1 W hz0 hy0 hn0 hm0).mono fun e W' ⟨he, hb⟩ => ?_
  subst he
  exact ⟨_, rfl, law_post laidOut hpar (fun n hn => by cases hn) hW' hb rfl (by kernel_rfl) Try.underlying4⟩

set_option maxRecDepth 100000 in
theorem lifted (os : Os) (started : os.Started) (H : Type) (enc : TypeId × Value → H) :
    ReturnsInHanded {} Try.checked os 6 .any (Rows.fnExactEndMarkingSpec.pre6 enc Try.prog Try.f6 Rows.fnExactEndMarkingRow.domain false) (Rows.fnExactEndMarkingSpec.post enc Try.prog Try.f6 false true false false) := by
  refine returnsInHanded_of_change (C := Try.checked) own started (by kernel_rfl) Try.func6
    (ChangeSpec.witness6 (enc := enc) (C := Try.checked) false ⟨#[], #[.agg #[.slice none 0 0, .slice none 0 0, .slice none 0 0, .slice none 0 0], .bool false], []⟩ 8 (by kernel_rfl) (by kernel_rfl) (by kernel_rfl) (by kernel_rfl)) ?_
  intro W base args ds gs before hval hW _ _
  exact contract H enc W base args ds gs before hval hW
end Go.Proofs.Ytdagkbgobnaijaa.xEndMarking
namespace Go.Proofs.Ytdagkbgobnaijaa
theorem xEndMarking_said : Rows.FnExactEndMarkingSaid :=
  OpenClaim.holds_of_wide 6 Try.f6 rfl rfl rfl rfl rfl rfl rfl ⟨rfl, rfl, rfl, rfl, rfl⟩ rfl rfl rfl rfl rfl (by kernel_rfl) Try.func6 (by kernel_rfl)
    (of_decide_eq_true (by kernel_rfl)) (by unfold Func.isWrapper; first | (rw [if_pos (by decide +kernel)]; kernel_rfl) | (rw [if_neg (by decide +kernel)]; exact ⟨rfl, rfl⟩))
    (fun os started H enc _ => xEndMarking.lifted os started H enc)
end Go.Proofs.Ytdagkbgobnaijaa
