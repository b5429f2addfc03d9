/- A heap copied by the laws. -/
import Derived.Test.YtdagkbgobnaijabHl3
namespace Go.Proofs.Ytdagkbgobnaijab
open Go.RowKit Ph

theorem OwnH.out {w w' : World} {lo hi : Nat} {a b c : Value} {h : H} (k : OwnH w lo hi a b c h) (hb : ∀ i, lo ≤ i → w'.heap[i]? = w.heap[i]?) : OwnH w' lo hi a b c h := by
  obtain ⟨us, k⟩ := k
  exact ⟨us, Fam.keep k fun g h1 _ _ => hb g h1⟩
theorem OwnH.cell {w : World} {lo hi : Nat} {a b c : Value} {h : H} (k : OwnH w lo hi a b c h) (p : Addr) (hp : p.block < lo) (x : Value) : OwnH (w.setCell p x) lo hi a b c h := k.out fun i hi => heap_setCell_other w p i _ (by omega)
theorem OwnH.whole {w : World} {lo hi : Nat} {a b c : Value} {h : H} (k : OwnH w lo hi a b c h) (g : Nat) (hp : g < lo) (cs : Array Value) : OwnH (w.setRow g cs) lo hi a b c h := k.out fun i hi => setRow_other w g i cs (by omega)
theorem OwnH.addLive {w : World} {lo hi : Nat} {a b c : Value} {h : H} (k : OwnH w lo hi a b c h) {b' : Value} {bs : List Bool} (ho : OwnBs w hi b' bs) (hl : lo ≤ hi) (hs : hi ≤ w.heap.size) : OwnH w lo w.heap.size a b' c ⟨h.f, bs, h.r⟩ := by
  obtain ⟨us, k⟩ := k
  exact ⟨us, k.putLive (owns_mono ho fun g hg => Nat.le_trans hl (owns_lt ho hg).1) hs fun g hg => .inl (owns_lt ho hg)⟩
theorem OwnH.addRoots {w : World} {lo hi : Nat} {a b c : Value} {h : H} (k : OwnH w lo hi a b c h) {c' : Value} {zs : List Int} (ho : Own w hi c' zs) (hl : lo ≤ hi) (hs : hi ≤ w.heap.size) : OwnH w lo w.heap.size a b c' ⟨h.f, h.l, zs⟩ := by
  obtain ⟨us, k⟩ := k
  exact ⟨us, k.putRoots (owns_mono ho fun g hg => Nat.le_trans hl (owns_lt ho hg).1) hs fun g hg => .inl (owns_lt ho hg)⟩
theorem OwnH.shapes {w : World} {lo hi : Nat} {a b c : Value} {h : H} (k : OwnH w lo hi a b c h) : (∃ p q, a = .slice p h.f.length q) ∧ (∃ p q, b = .slice p h.l.length q) ∧ (∃ p q, c = .slice p h.r.length q) := ⟨k.reads.f.shape, k.reads.l.shape, k.reads.r.shape⟩
theorem RowH.set0 {w : World} {g : Nat} {a b c : Value} (k : RowH w g a b c) (x : Value) : RowH (w.setCell ⟨g, 0, none⟩ x) g x b c := (Row.set k 0 x).trans rfl
theorem RowH.set1 {w : World} {g : Nat} {a b c : Value} (k : RowH w g a b c) (x : Value) : RowH (w.setCell ⟨g, 1, none⟩ x) g a x c := (Row.set k 1 x).trans rfl
theorem RowH.set2 {w : World} {g : Nat} {a b c : Value} (k : RowH w g a b c) (x : Value) : RowH (w.setCell ⟨g, 2, none⟩ x) g a b x := (Row.set k 2 x).trans rfl
theorem wl_storeH {ops : Array Oper} {rest : List Oper} {o : Oper} {q : Act} {w : World} {Q : Exit → Act → World → Prop} (hgd : o.guard = none) (x y : Operand) (ho : o.op = .store 27 x y) (g : Nat) (a b c a0 b0 c0 : Value) (hg : RowH w g a0 b0 c0)
    (hx : q.eval x = .pointer (some ⟨g, 0, none⟩)) (hy : q.eval y = hv a b c) (h1 : a.oneCell' = true) (h2 : b.oneCell' = true) (h3 : c.oneCell' = true) (h : wpList Try.prog ops Q rest (q.put o.dst undef) (w.setRow g (c3 a b c))) : wpList Try.prog ops Q (o :: rest) q w :=
  wpList_store_row hgd 27 x y ho g (c3 a b c) hx hy 27 (c3 a0 b0 c0) hg info_heap rfl (by simp [Value.oneCell']; exact ⟨h1, h2, h3⟩) h
set_option maxHeartbeats 1600000 in
theorem c_toHeap (a b c : Value) (h : H) (w : World) (hA : HeapAt w a b c h) (hm : wtH h ≤ 1048576) : Calls Try.prog 71 #[hv a b c] w fun e w' => ∃ a' b' c', e = .returned (hv a' b' c') ∧ OwnH w' w.heap.size w'.heap.size a' b' c' h ∧ Below w.heap.size w w' := by
  have hm1 : wt h.f ≤ 1048576 ∧ h.l.length ≤ 1048576 ∧ h.r.length ≤ 1048576 := by unfold wtH at hm; omega
  have HM := Lib.hid hm1
  clear hm hm1
  have hb0 := (((below1 w (.cells (c3 a b c) 68)).alloc (by simp) (.cells (c3 (.slice none 0 0) (.slice none 0 0) (.slice none 0 0)) 27)).alloc (by simp; omega) (.cells (c3 (.slice none 0 0) (.slice none 0 0) (.slice none 0 0)) 27))
  have hA0 := hA.below hb0
  have rp : Row _ w.heap.size 68 (c3 a b c) := ((Row.new w 68 (c3 a b c)).alloc (.cells (c3 (.slice none 0 0) (.slice none 0 0) (.slice none 0 0)) 27)).alloc (.cells (c3 (.slice none 0 0) (.slice none 0 0) (.slice none 0 0)) 27)
  have r1 : RowH _ (w.heap.size + 1) (.slice none 0 0) (.slice none 0 0) (.slice none 0 0) := (Row.new1 w (.cells (c3 a b c) 68) 27 (c3 (.slice none 0 0) (.slice none 0 0) (.slice none 0 0))).alloc (.cells (c3 (.slice none 0 0) (.slice none 0 0) (.slice none 0 0)) 27)
  have r2 : RowH _ (w.heap.size + 1 + 1) (.slice none 0 0) (.slice none 0 0) (.slice none 0 0) := Row.new2 w (.cells (c3 a b c) 68) (.cells (c3 (.slice none 0 0) (.slice none 0 0) (.slice none 0 0)) 27) 27 (c3 (.slice none 0 0) (.slice none 0 0) (.slice none 0 0))
  have HB := Lib.hid hb0; have HA := Lib.hid hA0; have RP := Lib.hid rp; have R1 := Lib.hid r1; have R2 := Lib.hid r2
  have HAW := Lib.hid hA
  clear hb0 hA0 rp r1 r2 hA
  go_enter Try.func71, Try.ntmps71
  go_wp2_with fail
  refine (c_toIntSS a h.f _ HA.out.f HM.out.1).mono ?_
  rintro e w1 ⟨v1, rfl, ho1, hb1⟩
  have rp1 := RP.out.below hb1
  have r11 := R1.out.below hb1
  have r21 := R2.out.below hb1
  have hB1 := bst HB.out hb1 HB.out.size
  have hsz : ((((w.alloc (.cells (c3 a b c) 68)).alloc (.cells (c3 (.slice none 0 0) (.slice none 0 0) (.slice none 0 0)) 27)).alloc (.cells (c3 (.slice none 0 0) (.slice none 0 0) (.slice none 0 0)) 27))).heap.size = w.heap.size + 3 := by simp
  rw [hsz] at ho1
  have hw1 : w.heap.size + 3 ≤ w1.heap.size := by have := hb1.size; rw [hsz] at this; exact this
  clear hb1 hsz HB HA RP R1 R2
  have o2 := ho1.cell ⟨w.heap.size + 1 + 1, 0, none⟩ (by simp) v1
  have rp2 := rp1.other ⟨w.heap.size + 1 + 1, 0, none⟩ (by simp; omega) v1
  have r12 : RowH _ _ _ _ _ := Row.other r11 ⟨w.heap.size + 1 + 1, 0, none⟩ (by simp) v1
  have r22 := r21.set0 v1
  have B2 := hB1.setCell (p := ⟨w.heap.size + 1 + 1, 0, none⟩) (by simp; omega) v1
  have f1 := Row.frozen r21 0
  have k1 := r21.c0
  have s2 : (w1.setCell ⟨w.heap.size + 1 + 1, 0, none⟩ v1).heap.size = w1.heap.size := World.size_setCell _ _ _
  rw [← s2] at hw1 o2
  have A2 := Lib.hid (HAW.out.l.below B2)
  obtain ⟨p1, q1, hv1⟩ := ho1.shapes.1
  have kb := Row.cell rp2 1
  clear ho1 rp1 r11 r21 hB1 s2
  generalize h.f.length = nf at hv1
  subst hv1
  have RP := Lib.hid rp2; have R1 := Lib.hid r12; have R2 := Lib.hid r22; have HB := Lib.hid B2; have HO := Lib.hid o2; have HW := Lib.hid hw1
  clear rp2 r12 r22 B2 o2 hw1
  go_wp2_with fail
  clear kb k1 f1
  generalize (w1.setCell ⟨w.heap.size + 1 + 1, 0, none⟩ (.slice p1 nf q1)) = w2 at *
  refine (c_toBoolS b h.l _ A2.out HM.out.2.1).mono ?_
  rintro e w3 ⟨v2, rfl, ho3, hb3⟩
  have rp3 := RP.out.below hb3
  have r13 := R1.out.below hb3
  have r23 := R2.out.below hb3
  have hB3 := bst HB.out hb3 HB.out.size
  have o3 := (HO.out.below hb3).addLive ho3 (by have := HW.out; omega) hb3.size
  have hw3 : w.heap.size + 3 ≤ w3.heap.size := by have := HW.out; have := hb3.size; omega
  clear hb3 HB RP R1 R2 HO HW
  have o4 := o3.cell ⟨w.heap.size + 1 + 1, 1, none⟩ (by simp) v2
  have rp4 := rp3.other ⟨w.heap.size + 1 + 1, 1, none⟩ (by simp; omega) v2
  have r14 : RowH _ _ _ _ _ := Row.other r13 ⟨w.heap.size + 1 + 1, 1, none⟩ (by simp) v2
  have r24 := r23.set1 v2
  have B4 := hB3.setCell (p := ⟨w.heap.size + 1 + 1, 1, none⟩) (by simp; omega) v2
  have f1 := Row.frozen r23 1
  have k1 := r23.c1
  have s4 : (w3.setCell ⟨w.heap.size + 1 + 1, 1, none⟩ v2).heap.size = w3.heap.size := World.size_setCell _ _ _
  rw [← s4] at hw3 o4
  have A4 := Lib.hid (HAW.out.r.below B4)
  obtain ⟨p2, q2, hv2⟩ := o3.shapes.2.1
  have kb := Row.cell rp4 2
  clear ho3 o3 rp3 r13 r23 hB3 s4
  simp only [] at hv2
  generalize h.l.length = nl at hv2
  subst hv2
  have RP := Lib.hid rp4; have R1 := Lib.hid r14; have R2 := Lib.hid r24; have HB := Lib.hid B4; have HO := Lib.hid o4; have HW := Lib.hid hw3
  clear rp4 r14 r24 B4 o4 hw3
  go_wp2_with fail
  clear kb k1 f1
  generalize (w3.setCell ⟨w.heap.size + 1 + 1, 1, none⟩ (.slice p2 nl q2)) = w4 at *
  refine (c_toIntS c h.r _ A4.out HM.out.2.2).mono ?_
  rintro e w5 ⟨v3, rfl, ho5, hb5⟩
  have r15 := R1.out.below hb5
  have r25 := R2.out.below hb5
  have hB5 := bst HB.out hb5 HB.out.size
  have o5 := (HO.out.below hb5).addRoots ho5 (by have := HW.out; omega) hb5.size
  have hw5 : w.heap.size + 3 ≤ w5.heap.size := by have := HW.out; have := hb5.size; omega
  clear hb5 HB RP R1 R2 HO HW
  have o6 := o5.cell ⟨w.heap.size + 1 + 1, 2, none⟩ (by simp) v3
  have r16 : RowH _ _ _ _ _ := Row.other r15 ⟨w.heap.size + 1 + 1, 2, none⟩ (by simp) v3
  have r26 := r25.set2 v3
  have B6 := hB5.setCell (p := ⟨w.heap.size + 1 + 1, 2, none⟩) (by simp; omega) v3
  have f1 := Row.frozen r25 2
  have k1 := r25.c2
  have s6 : (w5.setCell ⟨w.heap.size + 1 + 1, 2, none⟩ v3).heap.size = w5.heap.size := World.size_setCell _ _ _
  rw [← s6] at hw5 o6
  obtain ⟨p3, q3, hv3⟩ := o5.shapes.2.2
  clear ho5 o5 r15 r25 hB5 s6
  simp only [] at hv3
  generalize h.r.length = nr at hv3
  subst hv3
  have R1 := Lib.hid r16; have R2 := Lib.hid r26; have HB := Lib.hid B6; have HO := Lib.hid o6; have HW := Lib.hid hw5
  clear r16 r26 B6 o6 hw5
  go_wp2_with (first
    | (refine wl_loadH rfl _ rfl (w.heap.size + 1 + 1) _ _ _ R2.out rfl ?_)
    | (refine wl_storeH rfl _ _ rfl (w.heap.size + 1) (.slice p1 nf q1) (.slice p2 nl q2) (.slice p3 nr q3) _ _ _ R1.out rfl rfl rfl rfl rfl ?_))
  refine bodyPost_ret (res_row Try.results71 (Row.put R1.out (c3 (.slice p1 nf q1) (.slice p2 nl q2) (.slice p3 nr q3))) rfl Try.underlying27 rfl info_heap) rfl ⟨_, _, _, rfl, ?_, below_setRow HB.out (by omega) _⟩
  have := HO.out.whole (w.heap.size + 1) (by omega) (c3 (.slice p1 nf q1) (.slice p2 nl q2) (.slice p3 nr q3))
  rw [size_setRow]
  exact this.wide (by omega) (Nat.le_refl _)
end Go.Proofs.Ytdagkbgobnaijab
