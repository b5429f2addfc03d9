/- What the laws rest on, part 4. -/
import Derived.Test.YtbmfkgfmibpkjaaPA3
import Derived.Test.YtbmfkgfmibpkjaaRows
import Derived.Lib.SmallJoins
import Derived.WalkKit
import Derived.ProofKit
import Derived.OpenShut
import Derived.WalkSmall
import Derived.Deep.DeepHandedRow
import Derived.Lib.LaidTab
import Derived.Deep.Matrix
import Derived.Deep.Grids
import Derived.Deep.SlicePairs
namespace Go.Proofs.Ytbmfkgfmibpkjaa
open Go.RowKit Ph

abbrev av (a b c o k : Value) : Value := .agg #[a, b, c, o, k]
abbrev a5 (a b c o k : Value) : Array Value := #[a, b, c, o, k]
/-- A list of flags and a list of ints in blocks between lo and hi. -/
def OwnP (w : World) (lo hi : Nat) (o k : Value) (os : List Bool) (bk : List Int) : Prop := OwnH w lo hi nilS o k ⟨[], os, bk⟩
theorem OwnP.old {w : World} {lo hi : Nat} {o k : Value} {os : List Bool} {bk : List Int} (q : OwnP w lo hi o k os bk) : BoolsAt w o os := (OwnH.reads q).l
theorem OwnP.book {w : World} {lo hi : Nat} {o k : Value} {os : List Bool} {bk : List Int} (q : OwnP w lo hi o k os bk) : IntsAt w k bk := (OwnH.reads q).r
/-- What a call owns of ages: the heap's blocks and the others lie in two stretches. -/
def OwnA (w : World) (lo hi : Nat) (a b c o k : Value) (h : H) (os : List Bool) (bk : List Int) : Prop :=
  ∃ l1 h1 l2 h2, OwnH w l1 h1 a b c h ∧ OwnP w l2 h2 o k os bk ∧ lo ≤ l1 ∧ h1 ≤ hi ∧ lo ≤ l2 ∧ h2 ≤ hi ∧ (h1 ≤ l2 ∨ h2 ≤ l1)
section
variable {w w' : World} {lo hi : Nat} {a b c o k : Value} {h : H} {os : List Bool} {bk : List Int}
theorem OwnA.heap (q : OwnA w lo hi a b c o k h os bk) : HeapAt w a b c h := by obtain ⟨_, _, _, _, q, _⟩ := q; exact q.reads
theorem OwnA.old (q : OwnA w lo hi a b c o k h os bk) : BoolsAt w o os := by obtain ⟨_, _, _, _, _, q, _⟩ := q; exact q.old
theorem OwnA.book (q : OwnA w lo hi a b c o k h os bk) : IntsAt w k bk := by obtain ⟨_, _, _, _, _, q, _⟩ := q; exact q.book
theorem OwnA.below (q : OwnA w lo hi a b c o k h os bk) (hb : Below w.heap.size w w') : OwnA w' lo hi a b c o k h os bk := by
  obtain ⟨l1, h1, l2, h2, k1, k2, r⟩ := q
  exact ⟨l1, h1, l2, h2, k1.below hb, OwnH.below k2 hb, r⟩
theorem OwnA.chg {lo' hi' : Nat} (q : OwnA w lo hi a b c o k h os bk) (hc : Chg lo' hi' w w') (hd : hi ≤ lo' ∨ hi' ≤ lo) : OwnA w' lo hi a b c o k h os bk := by
  obtain ⟨l1, h1, l2, h2, k1, k2, r⟩ := q
  exact ⟨l1, h1, l2, h2, k1.chg hc (by omega), OwnH.chg k2 hc (by omega), r⟩
theorem OwnA.wide (q : OwnA w lo hi a b c o k h os bk) {lo' hi' : Nat} (e1 : lo' ≤ lo) (e2 : hi ≤ hi') : OwnA w lo' hi' a b c o k h os bk := by
  obtain ⟨l1, h1, l2, h2, k1, k2, r⟩ := q
  exact ⟨l1, h1, l2, h2, k1, k2, by omega⟩
theorem OwnA.out (q : OwnA w lo hi a b c o k h os bk) (hb : ∀ i, lo ≤ i → w'.heap[i]? = w.heap[i]?) : OwnA w' lo hi a b c o k h os bk := by
  obtain ⟨l1, h1, l2, h2, k1, k2, r⟩ := q
  exact ⟨l1, h1, l2, h2, k1.out fun i hi => hb i (by omega), OwnH.out k2 fun i hi => hb i (by omega), r⟩
theorem OwnA.cell (q : OwnA w lo hi a b c o k h os bk) (p : Addr) (hp : p.block < lo) (x : Value) : OwnA (w.setCell p x) lo hi a b c o k h os bk := q.out fun i hi => heap_setCell_other w p i _ (by omega)
theorem OwnA.whole (q : OwnA w lo hi a b c o k h os bk) (g : Nat) (hp : g < lo) (xs : Array Value) : OwnA (w.setRow g xs) lo hi a b c o k h os bk := q.out fun i hi => setRow_other w g i xs (by omega)
theorem OwnA.shapes (q : OwnA w lo hi a b c o k h os bk) : (∃ p q, a = .slice p h.f.length q) ∧ (∃ p q, b = .slice p h.l.length q) ∧ (∃ p q, c = .slice p h.r.length q) ∧ (∃ p q, o = .slice p os.length q) ∧ (∃ p q, k = .slice p bk.length q) := ⟨q.heap.f.shape, q.heap.l.shape, q.heap.r.shape, q.old.shape, q.book.shape⟩
theorem OwnA.nil (w : World) (lo hi : Nat) (hl : lo ≤ hi) : OwnA w lo hi nilS nilS nilS nilS nilS ⟨[], [], []⟩ [] [] := ⟨lo, hi, hi, hi, OwnH.nil _ _ _, OwnH.nil _ _ _, by omega, by omega, by omega, by omega, by omega⟩
/-- The heap first, the others behind it. -/
theorem OwnA.hp {mid : Nat} (q : OwnH w lo mid a b c h) (p : OwnP w mid hi o k os bk) (h1 : lo ≤ mid) (h2 : mid ≤ hi) : OwnA w lo hi a b c o k h os bk := ⟨lo, mid, mid, hi, q, p, by omega, by omega, by omega, by omega, by omega⟩
theorem OwnA.ph {mid : Nat} (q : OwnH w mid hi a b c h) (p : OwnP w lo mid o k os bk) (h1 : lo ≤ mid) (h2 : mid ≤ hi) : OwnA w lo hi a b c o k h os bk := ⟨mid, hi, lo, mid, q, p, by omega, by omega, by omega, by omega, by omega⟩
end
theorem OwnP.oldOnly {w : World} {lo : Nat} {o : Value} {os : List Bool} (ho : OwnBs w lo o os) (hs : lo ≤ w.heap.size) : OwnP w lo w.heap.size o nilS os [] := (OwnH.nil w lo lo).addLive ho (Nat.le_refl _) hs
theorem info_ages : (Try.prog.info? 59).map (·.size) = some 5 := by kernel_rfl
def RowA (w : World) (g : Nat) (a b c o k : Value) : Prop := Row w g 59 (a5 a b c o k)
theorem wl_loadA {ops : Array Oper} {rest : List Oper} {o : Oper} {q : Act} {w : World} {Q : Exit → Act → World → Prop} (hgd : o.guard = none) (x : Operand) (ho : o.op = .load 59 x) (g : Nat) (a b c d f : Value) (hg : RowA w g a b c d f)
    (hx : q.eval x = .pointer (some ⟨g, 0, none⟩)) (h : wpList Try.prog ops Q rest (q.put o.dst (av a b c d f)) w) : wpList Try.prog ops Q (o :: rest) q w :=
  wpList_load_row hgd 59 x ho g hx 59 (a5 a b c d f) (0, 0) _ hg Try.underlying59 rfl info_ages h
theorem wl_storeA {ops : Array Oper} {rest : List Oper} {o : Oper} {q : Act} {w : World} {Q : Exit → Act → World → Prop} (hgd : o.guard = none) (x y : Operand) (ho : o.op = .store 59 x y) (g : Nat) (a b c d f a0 b0 c0 d0 f0 : Value) (hg : RowA w g a0 b0 c0 d0 f0)
    (hx : q.eval x = .pointer (some ⟨g, 0, none⟩)) (hy : q.eval y = av a b c d f) (h1 : a.oneCell' = true) (h2 : b.oneCell' = true) (h3 : c.oneCell' = true) (h4 : d.oneCell' = true) (h5 : f.oneCell' = true) (h : wpList Try.prog ops Q rest (q.put o.dst undef) (w.setRow g (a5 a b c d f))) : wpList Try.prog ops Q (o :: rest) q w :=
  wpList_store_row hgd 59 x y ho g (a5 a b c d f) hx hy 59 (a5 a0 b0 c0 d0 f0) hg info_ages rfl (by simp [Value.oneCell']; exact ⟨h1, h2, h3, h4, h5⟩) h
abbrev nA : Value := av nilS nilS nilS nilS nilS
abbrev nA5 : Array Value := a5 nilS nilS nilS nilS nilS

set_option maxHeartbeats 1600000 in
theorem c_szAges_yes (a b c o k : Value) (h : H) (os : List Bool) (bk : List Int) (left : Int) (w : World) (hA : HeapAt w a b c h) (hO : BoolsAt w o os) (hK : IntsAt w k bk) (h1 : left ≤ 1048576) (hw : (wtH h : Int) + os.length + bk.length ≤ left) : Calls Try.prog 43 #[av a b c o k, .int .i64 left] w fun e w' => e = .returned (.int .i64 (left - wtH h - os.length - bk.length)) ∧ Below w.heap.size w w' := by
  have hB := below1 w (.cells (a5 a b c o k) 66)
  have HA := Lib.hid (hA.below hB)
  have HB := Lib.hid hB
  have R := Row.new w 66 (a5 a b c o k)
  obtain ⟨oa, oc, rfl⟩ := hO.shape
  obtain ⟨ka, kc, rfl⟩ := hK.shape
  clear hA hO hK hB
  generalize hn : os.length = n at *
  generalize hm : bk.length = m at *
  clear hn hm
  have J1 : Hid ((wtH h : Int) ≤ left) := by unfold Hid; omega
  generalize hx : wtH h = x at *
  have HX := Lib.hid hx; clear hx
  have i1 : ¬ left - (x : Int) < 0 := by omega
  have i2 : ¬ left - (x : Int) - (n : Int) < 0 := by omega
  have i3 : ¬ left - (x : Int) - (n : Int) - (m : Int) < 0 := by omega
  have J2 : Hid (left - (x : Int) ≤ 1048576 ∧ (n : Int) ≤ left - (x : Int)) := ⟨by omega, by omega⟩
  have J3 : Hid (left - (x : Int) - (n : Int) ≤ 1048576 ∧ (m : Int) ≤ left - (x : Int) - (n : Int)) := ⟨by omega, by omega⟩
  have RR := Lib.hid R; clear R
  go_enter Try.func43, Try.ntmps43
  go_wp2_with fail
  refine (c_szHeap_yes a b c h left _ HA.out h1 (by rw [HX.out]; omega)).mono ?_
  rintro e w1 ⟨rfl, hb1⟩
  rw [HX.out]
  have B1 := Lib.hid (bst HB.out hb1 HB.out.size)
  have q := Row.cell (Row.below RR.out hb1) 3
  have q4 := Row.cell (Row.below RR.out hb1) 4
  clear hb1 RR HB HA
  go_wp2_with (first
    | (go_at_call 96; refine (c_szBoolS_yes oa n oc (left - x) _ J2.out.1 J2.out.2).mono ?_; rintro e w1 ⟨rfl, rfl⟩)
    | (go_at_call 88; refine (c_szIntS_yes ka m kc (left - x - n) _ J3.out.1 J3.out.2).mono ?_; rintro e w1 ⟨rfl, rfl⟩))
  go_ret
  exact ⟨r_i (by omega), B1.out⟩
set_option maxHeartbeats 1600000 in
theorem c_szAges_no (a b c o k : Value) (h : H) (os : List Bool) (bk : List Int) (left : Int) (w : World) (hA : HeapAt w a b c h) (hf : FitH h) (hO : BoolsAt w o os) (hn : os.length ≤ 9223372036854775807) (hK : IntsAt w k bk) (hm : bk.length ≤ 9223372036854775807) (h0 : 0 ≤ left) (h1 : left ≤ 1048576) (hw : left < (wtH h : Int) + os.length + bk.length) : Calls Try.prog 43 #[av a b c o k, .int .i64 left] w fun e w' => e = .returned (.int .i64 (-1)) ∧ Below w.heap.size w w' := by
  have hB := below1 w (.cells (a5 a b c o k) 66)
  have HA := Lib.hid (hA.below hB)
  have HB := Lib.hid hB
  have R := Row.new w 66 (a5 a b c o k)
  obtain ⟨oa, oc, rfl⟩ := hO.shape
  obtain ⟨ka, kc, rfl⟩ := hK.shape
  have HF := Lib.hid hf
  clear hA hO hK hB hf
  generalize os.length = n at *
  generalize bk.length = m at *
  have HNN := Lib.hid hn; clear hn
  have HMM := Lib.hid hm; clear hm
  generalize hx : wtH h = x at *
  have HX := Lib.hid hx; clear hx
  have RR := Lib.hid R; clear R
  by_cases i1 : left < (x : Int)
  · have J1 : Hid (left < (wtH h : Int)) := by unfold Hid; rw [HX.out]; exact i1
    clear i1
    go_enter Try.func43, Try.ntmps43
    go_wp2_with fail
    refine (c_szHeap_no a b c h left _ HA.out HF.out h0 h1 J1.out).mono ?_
    rintro e w1 ⟨rfl, hb1⟩
    have B1 := Lib.hid (bst HB.out hb1 HB.out.size)
    clear hb1 RR HB HA
    go_wp2
    go_ret
    exact ⟨rfl, B1.out⟩
  have J1 : Hid ((wtH h : Int) ≤ left) := by unfold Hid; rw [HX.out]; omega
  have k1 : ¬ left - (x : Int) < 0 := by omega
  by_cases i2 : left - (x : Int) < (n : Int)
  · have J2 : Hid (0 ≤ left - (x : Int) ∧ left - (x : Int) ≤ 1048576 ∧ left - (x : Int) < (n : Int)) := ⟨by omega, by omega, by omega⟩
    clear i2 i1
    go_enter Try.func43, Try.ntmps43
    go_wp2_with fail
    refine (c_szHeap_yes a b c h left _ HA.out h1 J1.out).mono ?_
    rintro e w1 ⟨rfl, hb1⟩
    rw [HX.out]
    have B1 := Lib.hid (bst HB.out hb1 HB.out.size)
    have q := Row.cell (Row.below RR.out hb1) 3
    clear hb1 RR HB HA
    go_wp2_with (first
      | (go_at_call 96; refine (c_szBoolS_no oa n oc (left - x) _ J2.out.1 J2.out.2.1 HNN.out J2.out.2.2).mono ?_; rintro e w1 ⟨rfl, rfl⟩))
    go_ret
    exact ⟨rfl, B1.out⟩
  have J2 : Hid (left - (x : Int) ≤ 1048576 ∧ (n : Int) ≤ left - (x : Int)) := ⟨by omega, by omega⟩
  have J3 : Hid (0 ≤ left - (x : Int) - (n : Int) ∧ left - (x : Int) - (n : Int) ≤ 1048576 ∧ left - (x : Int) - (n : Int) < (m : Int)) := ⟨by omega, by omega, by omega⟩
  have k2 : ¬ left - (x : Int) - (n : Int) < 0 := by omega
  clear i2 i1
  go_enter Try.func43, Try.ntmps43
  go_wp2_with fail
  refine (c_szHeap_yes a b c h left _ HA.out h1 J1.out).mono ?_
  rintro e w1 ⟨rfl, hb1⟩
  rw [HX.out]
  have B1 := Lib.hid (bst HB.out hb1 HB.out.size)
  have q := Row.cell (Row.below RR.out hb1) 3
  have q4 := Row.cell (Row.below RR.out hb1) 4
  clear hb1 RR HB HA
  go_wp2_with (first
    | (go_at_call 96; refine (c_szBoolS_yes oa n oc (left - x) _ J2.out.1 J2.out.2).mono ?_; rintro e w1 ⟨rfl, rfl⟩)
    | (go_at_call 88; refine (c_szIntS_no ka m kc (left - x - n) _ J3.out.1 J3.out.2.1 HMM.out J3.out.2.2).mono ?_; rintro e w1 ⟨rfl, rfl⟩))
  go_ret
  exact ⟨rfl, B1.out⟩

set_option maxHeartbeats 1600000 in
theorem c_eqAges (a b c o k a' b' c' o' k' : Value) (h : H) (os : List Bool) (bk : List Int) (w : World) (hA : HeapAt w a b c h) (hO : BoolsAt w o os) (hK : IntsAt w k bk) (hA' : HeapAt w a' b' c' h) (hO' : BoolsAt w o' os) (hK' : IntsAt w k' bk) (hm : wtH h ≤ 1048576) (hn : os.length ≤ 1048576) (hn' : bk.length ≤ 1048576) : Calls Try.prog 40 #[av a b c o k, av a' b' c' o' k'] w fun e w' => e = .returned (.bool true) ∧ Below w.heap.size w w' := by
  have hB := (below1 w (.cells (a5 a b c o k) 59)).alloc (by simp) (.cells (a5 a' b' c' o' k') 59)
  have HA := Lib.hid (hA.below hB); have HA' := Lib.hid (hA'.below hB); have HO := Lib.hid (hO.below hB); have HO' := Lib.hid (hO'.below hB); have HC := Lib.hid (hK.below hB); have HC' := Lib.hid (hK'.below hB)
  have HB := Lib.hid hB
  have R1 := Lib.hid (Row.alloc (Row.new w 59 (a5 a b c o k)) (.cells (a5 a' b' c' o' k') 59))
  have R2 := Lib.hid (Row.new1 w (.cells (a5 a b c o k) 59) 59 (a5 a' b' c' o' k'))
  clear hA hO hK hA' hO' hK' hB
  have HM := Lib.hid hm; have HN := Lib.hid hn; have HN' := Lib.hid hn'
  clear hm hn hn'
  go_enter Try.func40, Try.ntmps40
  go_wp2_with fail
  refine (c_eqHeap a b c a' b' c' h _ HA.out HA'.out HM.out).mono ?_
  rintro e w1 ⟨rfl, hb1⟩
  have B1 := Lib.hid (bst HB.out hb1 HB.out.size)
  have q1 := Row.cell (Row.below R1.out hb1) 3
  have q2 := Row.cell (Row.below R2.out hb1) 3
  have R3 := Lib.hid (Row.below R1.out hb1); have R4 := Lib.hid (Row.below R2.out hb1)
  have E1 := Lib.hid (HO.out.below hb1); have E2 := Lib.hid (HO'.out.below hb1)
  have D1 := Lib.hid (HC.out.below hb1); have D2 := Lib.hid (HC'.out.below hb1)
  clear hb1 R1 R2 HB HA HA' HC HC' HO HO'
  go_wp2_with fail
  refine (c_eqBoolS o o' os _ E1.out E2.out (by have := HN.out; omega)).mono ?_
  rintro e w2 ⟨rfl, nd, hnd⟩
  have hb2 : Below w1.heap.size w1 w2 := by rw [hnd]; exact below_drewN (Below.refl _ _) nd
  have B2 := Lib.hid (bst B1.out hb2 B1.out.size)
  have q3 := Row.cell (Row.below R3.out hb2) 4
  have q4 := Row.cell (Row.below R4.out hb2) 4
  have F1 := Lib.hid (D1.out.below hb2); have F2 := Lib.hid (D2.out.below hb2)
  clear hb2 hnd nd q1 q2 R3 R4 E1 E2 D1 D2 B1
  go_wp2_with fail
  refine (c_eqIntS k k' bk bk _ F1.out F2.out (by have := HN'.out; omega)).mono ?_
  rintro e w3 ⟨rfl, hw⟩
  rw [decide_eq_true (rfl : bk = bk)]
  have B3 : Hid (Below w.heap.size w w3) := by
    obtain ⟨n, rfl⟩ := hw
    exact below_drewN B2.out _
  clear hw q3 q4
  go_wp2
  go_ret
  exact ⟨rfl, B3.out⟩

set_option maxHeartbeats 1600000 in
theorem c_markAges (lo hi : Nat) (a b c o x : Value) (h : H) (os : List Bool) (bk : List Int) (k : Int) (w : World) (hown : OwnA w lo hi a b c o x h os bk) (h0 : 0 ≤ k) (hm : k + szM h + os.length + bk.length ≤ 9223372036854775806) (hl : h.f.length ≤ 9223372036854775806) (hs : hi ≤ w.heap.size) :
    Calls Try.prog 41 #[av a b c o x, .int .i64 k] w fun e w' => e = .returned (.int .i64 (k + szM h + os.length + bk.length)) ∧ OwnA w' lo hi a b c o x (markH k h) (upB (k + szM h) os.length) (upFrom (k + szM h + os.length) bk.length) ∧ Chg lo hi w w' := by
  obtain ⟨l1, h1, l2, h2, k1, k2, e1, e2, e3, e4, e5⟩ := hown
  have hB := below1 w (.cells (a5 a b c o x) 59)
  have K1 := Lib.hid (k1.below hB); have K2 := Lib.hid (OwnH.below k2 hB)
  have HB := Lib.hid hB
  have R1 := Lib.hid (Row.new w 59 (a5 a b c o x))
  have HM := Lib.hid hm; have HL := Lib.hid hl; have HS := Lib.hid hs
  have E := Lib.hid (And.intro e1 (And.intro e2 (And.intro e3 (And.intro e4 e5))))
  clear k1 k2 hB hm hl hs e1 e2 e3 e4 e5
  go_enter Try.func41, Try.ntmps41
  go_wp2_with fail
  refine (c_markHeap l1 h1 a b c h k _ K1.out h0 (by have := HM.out; omega) HL.out (by have := E.out; have := HS.out; simp; omega)).mono ?_
  rintro e w1 ⟨rfl, ho1, hch1⟩
  have r1 := Row.chg R1.out hch1 (.inr (by have := E.out; have := HS.out; omega))
  have q := Row.cell r1 3
  have R2 := Lib.hid r1; clear r1
  have O1 := Lib.hid ho1
  have C1 := Lib.hid (OwnH.chg K2.out hch1 (by have := E.out; omega))
  have CH := Lib.hid ((Chg.of_below (lo := lo) (hi := hi) HB.out).trans (hch1.wide (by have := E.out; omega) (by have := E.out; omega)))
  clear ho1 hch1 R1 HB K1 K2
  go_wp2_with fail
  refine (c_markLive l2 h2 _ o x _ (k + szM h) _ C1.out (by omega) (by have := HM.out; simp; omega)).mono ?_
  rintro e w2 ⟨rfl, o2, ch2⟩
  simp only at o2
  have q5 := Row.cell (Row.chg R2.out ch2 (.inr (by have := E.out; have := HS.out; omega))) 4
  have C2 := Lib.hid o2
  have O3 := Lib.hid (O1.out.chg ch2 (by have := E.out; omega))
  have CH2 := Lib.hid (CH.out.trans (ch2.wide (by have := E.out; omega) (by have := E.out; omega)))
  clear o2 ch2 q R2 O1 C1 CH
  go_wp2_with fail
  refine (c_markRoots l2 h2 _ o x _ (k + szM h + os.length) _ C2.out (by omega) (by have := HM.out; simp; omega)).mono ?_
  rintro e w3 ⟨rfl, o3, ch3⟩
  simp only at o3
  have C3 := Lib.hid o3
  have O4 := Lib.hid (O3.out.chg ch3 (by have := E.out; omega))
  have CH3 := Lib.hid (CH2.out.trans (ch3.wide (by have := E.out; omega) (by have := E.out; omega)))
  clear o3 ch3 q5 O3 C2 CH2
  go_wp2
  go_ret
  exact ⟨rfl, ⟨l1, h1, l2, h2, O4.out, C3.out, E.out⟩, CH3.out⟩

set_option maxHeartbeats 1600000 in
theorem c_heldAges (a b c o x : Value) (h : H) (m n : Nat) (k : Int) (w : World) (hA : HeapAt w a b c (markH k h)) (hO : BoolsAt w o (upB (k + szM h) m)) (hC : IntsAt w x (upFrom (k + szM h + m) n)) (h0 : 0 ≤ k) (hm : k + szM h + m + n ≤ 9223372036854775806) (hl : h.f.length ≤ 9223372036854775806) :
    Calls Try.prog 42 #[av a b c o x, .int .i64 k] w fun e w' => e = .returned (.int .i64 (k + szM h + m + n)) ∧ Below w.heap.size w w' := by
  have hB := below1 w (.cells (a5 a b c o x) 59)
  have HA := Lib.hid (hA.below hB); have HO := Lib.hid (hO.below hB); have HC := Lib.hid (hC.below hB)
  have HB := Lib.hid hB
  have R1 := Lib.hid (Row.new w 59 (a5 a b c o x))
  have HM := Lib.hid hm; have HL := Lib.hid hl
  have i1 : ¬ k + (szM h : Int) < 0 := by omega
  have i2 : ¬ k + (szM h : Int) + (m : Int) < 0 := by omega
  have i3 : ¬ k + (szM h : Int) + (m : Int) + (n : Int) < 0 := by omega
  clear hA hO hC hB hm hl
  go_enter Try.func42, Try.ntmps42
  go_wp2_with fail
  refine (c_heldHeap a b c h k _ HA.out h0 (by have := HM.out; omega) HL.out).mono ?_
  rintro e w1 ⟨rfl, hb1⟩
  have B1 := Lib.hid (bst HB.out hb1 HB.out.size)
  have q := Row.cell (Row.below R1.out hb1) 3
  have q4 := Row.cell (Row.below R1.out hb1) 4
  have G1 := Lib.hid (HO.out.below hb1)
  have D1 := Lib.hid (HC.out.below hb1)
  have J : Hid (0 ≤ k + (szM h : Int) ∧ k + (szM h : Int) + (m : Int) ≤ 9223372036854775806 ∧ 0 ≤ k + (szM h : Int) + (m : Int) ∧ k + (szM h : Int) + (m : Int) + (n : Int) ≤ 9223372036854775806) := ⟨by omega, by have := HM.out; omega, by omega, HM.out⟩
  clear hb1 R1 HB HA HC HO
  go_wp2_with (first
    | (go_at_call 37; refine (c_heldBoolS o m (k + szM h) _ G1.out J.out.1 J.out.2.1).mono ?_; rintro e w1 ⟨rfl, rfl⟩)
    | (go_at_call 58; refine (c_heldIntS x n (k + szM h + m) _ D1.out J.out.2.2.1 J.out.2.2.2).mono ?_; rintro e w1 ⟨rfl, rfl⟩))
  go_ret
  exact ⟨rfl, B1.out⟩
set_option maxHeartbeats 3200000 in
theorem c_toAges (a b c o k : Value) (h : H) (os : List Bool) (bk : List Int) (w : World) (hA : HeapAt w a b c h) (hO : BoolsAt w o os) (hC : IntsAt w k bk) (hm : wtH h ≤ 1048576) (hn : os.length ≤ 1048576) (hn' : bk.length ≤ 1048576) : Calls Try.prog 45 #[av a b c o k] w fun e w' => ∃ a' b' c' o' k', e = .returned (av a' b' c' o' k') ∧ OwnA w' w.heap.size w'.heap.size a' b' c' o' k' h os bk ∧ Below w.heap.size w w' := by
  have hb0 := (((below1 w (.cells (a5 a b c o k) 66)).alloc (by simp) (.cells nA5 59)).alloc (by simp; omega) (.cells nA5 59))
  have rp : Row _ w.heap.size 66 (a5 a b c o k) := ((Row.new w 66 (a5 a b c o k)).alloc (.cells nA5 59)).alloc (.cells nA5 59)
  have r1 : RowA _ (w.heap.size + 1) nilS nilS nilS nilS nilS := (Row.new1 w (.cells (a5 a b c o k) 66) 59 nA5).alloc (.cells nA5 59)
  have r2 : RowA _ (w.heap.size + 1 + 1) nilS nilS nilS nilS nilS := Row.new2 w (.cells (a5 a b c o k) 66) (.cells nA5 59) 59 nA5
  have HB := Lib.hid hb0; have HA := Lib.hid (hA.below hb0); have HO := Lib.hid hO; have HC := Lib.hid hC; have RP := Lib.hid rp; have R1 := Lib.hid r1; have R2 := Lib.hid r2
  have HM := Lib.hid hm; have HN := Lib.hid hn; have HN' := Lib.hid hn'
  clear hb0 rp r1 r2 hA hO hC hm hn hn'
  go_enter Try.func45, Try.ntmps45
  go_wp2_with fail
  refine (c_toHeap a b c h _ HA.out HM.out).mono ?_
  rintro e w1 ⟨a', b', c', rfl, ho1, hb1⟩
  have rp1 := RP.out.below hb1
  have r11 : RowA _ _ _ _ _ _ _ := Row.below R1.out hb1
  have r21 : RowA _ _ _ _ _ _ _ := Row.below R2.out hb1
  have hB1 := bst HB.out hb1 HB.out.size
  have hsz : ((((w.alloc (.cells (a5 a b c o k) 66)).alloc (.cells nA5 59)).alloc (.cells nA5 59))).heap.size = w.heap.size + 3 := by simp
  rw [hsz] at ho1
  have hw1 : w.heap.size + 3 ≤ w1.heap.size := by have := hb1.size; rw [hsz] at this; exact this
  clear hb1 hsz HB HA RP R1 R2
  obtain ⟨⟨p1, q1, s1⟩, ⟨p2, q2, s2⟩, ⟨p3, q3, s3⟩⟩ := ho1.shapes
  have HSH := Lib.hid (And.intro s1 (And.intro s2 s3))
  clear s1 s2 s3
  have G1 : a' = .slice p1 h.f.length q1 := HSH.out.1
  have G2 : b' = .slice p2 h.l.length q2 := HSH.out.2.1
  have G3 : c' = .slice p3 h.r.length q3 := HSH.out.2.2
  clear HSH
  generalize h.f.length = nf at G1
  generalize h.l.length = nl at G2
  generalize h.r.length = nr at G3
  subst G1 G2 G3
  have f0 := Row.frozen r21 0
  have f1 := Row.frozen r21 1
  have f2 := Row.frozen r21 2
  have k0 := Row.cell r21 0
  have k1 := Row.cell r21 1
  have k2 := Row.cell r21 2
  have HOW := Lib.hid ho1; have RP := Lib.hid rp1; have R1 := Lib.hid r11; have R2 := Lib.hid r21; have HB := Lib.hid hB1; have HW := Lib.hid hw1
  clear ho1 rp1 r11 r21 hB1
  have kd2 : (((w1.setCell ⟨w.heap.size + 1 + 1, 0, none⟩ (.slice p1 nf q1)).setCell ⟨w.heap.size + 1 + 1, 1, none⟩ (.slice p2 nl q2)).setCell ⟨w.heap.size + 1 + 1, 2, none⟩ (.slice p3 nr q3)).cell? ⟨w.heap.size, 3, none⟩ = some o := Row.cell (((RP.out.other ⟨w.heap.size + 1 + 1, 0, none⟩ (by simp; omega) _).other ⟨w.heap.size + 1 + 1, 1, none⟩ (by simp; omega) _).other ⟨w.heap.size + 1 + 1, 2, none⟩ (by simp; omega) _) 3
  go_wp2_with fail
  clear kd2 f0 f1 f2 k0 k1 k2
  have B2 := ((HB.out.setCell (p := ⟨w.heap.size + 1 + 1, 0, none⟩) (by simp; omega) (.slice p1 nf q1)).setCell (p := ⟨w.heap.size + 1 + 1, 1, none⟩) (by simp; omega) (.slice p2 nl q2)).setCell (p := ⟨w.heap.size + 1 + 1, 2, none⟩) (by simp; omega) (.slice p3 nr q3)
  have o2 := ((HOW.out.cell ⟨w.heap.size + 1 + 1, 0, none⟩ (by simp) (.slice p1 nf q1)).cell ⟨w.heap.size + 1 + 1, 1, none⟩ (by simp) (.slice p2 nl q2)).cell ⟨w.heap.size + 1 + 1, 2, none⟩ (by simp) (.slice p3 nr q3)
  have rp2 := ((RP.out.other ⟨w.heap.size + 1 + 1, 0, none⟩ (by simp; omega) (.slice p1 nf q1)).other ⟨w.heap.size + 1 + 1, 1, none⟩ (by simp; omega) (.slice p2 nl q2)).other ⟨w.heap.size + 1 + 1, 2, none⟩ (by simp; omega) (.slice p3 nr q3)
  have r12 : RowA _ _ _ _ _ _ _ := ((Row.other R1.out ⟨w.heap.size + 1 + 1, 0, none⟩ (by simp) (.slice p1 nf q1)).other ⟨w.heap.size + 1 + 1, 1, none⟩ (by simp) (.slice p2 nl q2)).other ⟨w.heap.size + 1 + 1, 2, none⟩ (by simp) (.slice p3 nr q3)
  have r22 : RowA (((w1.setCell ⟨w.heap.size + 1 + 1, 0, none⟩ (.slice p1 nf q1)).setCell ⟨w.heap.size + 1 + 1, 1, none⟩ (.slice p2 nl q2)).setCell ⟨w.heap.size + 1 + 1, 2, none⟩ (.slice p3 nr q3)) _ (.slice p1 nf q1) (.slice p2 nl q2) (.slice p3 nr q3) nilS nilS := (Row.set (Row.set (Row.set R2.out 0 _) 1 _) 2 _).trans rfl
  have s2 : (((w1.setCell ⟨w.heap.size + 1 + 1, 0, none⟩ (.slice p1 nf q1)).setCell ⟨w.heap.size + 1 + 1, 1, none⟩ (.slice p2 nl q2)).setCell ⟨w.heap.size + 1 + 1, 2, none⟩ (.slice p3 nr q3)).heap.size = w1.heap.size := by rw [World.size_setCell, World.size_setCell, World.size_setCell]
  have e2 : BoolsAt (((w1.setCell ⟨w.heap.size + 1 + 1, 0, none⟩ (.slice p1 nf q1)).setCell ⟨w.heap.size + 1 + 1, 1, none⟩ (.slice p2 nl q2)).setCell ⟨w.heap.size + 1 + 1, 2, none⟩ (.slice p3 nr q3)) o os := HO.out.below B2
  rw [← s2] at hw1 o2
  clear HB HOW R1 R2 HO RP
  generalize (((w1.setCell ⟨w.heap.size + 1 + 1, 0, none⟩ (.slice p1 nf q1)).setCell ⟨w.heap.size + 1 + 1, 1, none⟩ (.slice p2 nl q2)).setCell ⟨w.heap.size + 1 + 1, 2, none⟩ (.slice p3 nr q3)) = w2 at *
  refine (c_toBoolS o os _ e2 HN.out).mono ?_
  rintro e w3 ⟨o', rfl, ho3, hb3⟩
  have rp3 := Row.below rp2 hb3
  have r13 : RowA _ _ _ _ _ _ _ := Row.below r12 hb3
  have r23 : RowA _ _ _ _ _ _ _ := Row.below r22 hb3
  have B3 := bst B2 hb3 B2.size
  have o3 := o2.below hb3
  have hw3 : w.heap.size + 3 ≤ w3.heap.size := by have := hb3.size; omega
  obtain ⟨p4, q4, G4⟩ := (owns_bools ho3).shape
  have HG4 := Lib.hid G4; clear G4
  have G4 : o' = .slice p4 os.length q4 := HG4.out
  clear HG4
  generalize os.length = no at G4
  subst G4
  have HP3 := Lib.hid ((OwnP.oldOnly ho3 hb3.size).cell ⟨w.heap.size + 1 + 1, 3, none⟩ (by simp; omega) (.slice p4 no q4))
  have f3 := Row.frozen r23 3
  have k3 := Row.cell r23 3
  have HO3 := Lib.hid o3; have RP3 := Lib.hid rp3; have R13 := Lib.hid r13; have R23 := Lib.hid r23; have HB3 := Lib.hid B3; have SZ3 := Lib.hid hb3.size
  have HW1 := Lib.hid hw1
  clear rp2 r12 r22 B2 o2 hb3 ho3 e2 r13 r23 B3 o3 rp3 s2 hw1
  have kd4 : (w3.setCell ⟨w.heap.size + 1 + 1, 3, none⟩ (.slice p4 no q4)).cell? ⟨w.heap.size, 4, none⟩ = some k := Row.cell (RP3.out.other ⟨w.heap.size + 1 + 1, 3, none⟩ (by simp; omega) (.slice p4 no q4)) 4
  go_wp2_with fail
  clear kd4 f3 k3
  have B4 := HB3.out.setCell (p := ⟨w.heap.size + 1 + 1, 3, none⟩) (by simp; omega) (.slice p4 no q4)
  have o4 := HO3.out.cell ⟨w.heap.size + 1 + 1, 3, none⟩ (by simp) (.slice p4 no q4)
  have r14 : RowA _ _ _ _ _ _ _ := Row.other R13.out ⟨w.heap.size + 1 + 1, 3, none⟩ (by simp) (.slice p4 no q4)
  have r24 : RowA (w3.setCell ⟨w.heap.size + 1 + 1, 3, none⟩ (.slice p4 no q4)) _ (.slice p1 nf q1) (.slice p2 nl q2) (.slice p3 nr q3) (.slice p4 no q4) nilS := (Row.set R23.out 3 _).trans rfl
  have s4 : (w3.setCell ⟨w.heap.size + 1 + 1, 3, none⟩ (.slice p4 no q4)).heap.size = w3.heap.size := by rw [World.size_setCell]
  have c4 : IntsAt (w3.setCell ⟨w.heap.size + 1 + 1, 3, none⟩ (.slice p4 no q4)) k bk := HC.out.below B4
  have hp4 := HP3.out
  rw [← s4] at hp4 hw3
  have sz := SZ3.out
  rw [← s4] at sz
  clear HB3 HO3 R13 R23 HC RP3 HP3 SZ3 s4
  generalize (w3.setCell ⟨w.heap.size + 1 + 1, 3, none⟩ (.slice p4 no q4)) = w4 at *
  refine (c_toIntS k bk _ c4 HN'.out).mono ?_
  rintro e w5 ⟨k', rfl, ho5, hb5⟩
  have r15 : RowA _ _ _ _ _ _ _ := Row.below r14 hb5
  have r25 : RowA _ _ _ _ _ _ _ := Row.below r24 hb5
  have B5 := bst B4 hb5 B4.size
  have o5 := o4.below hb5
  have hw5 : w.heap.size + 3 ≤ w5.heap.size := by have := hb5.size; omega
  obtain ⟨p5, q5, G5⟩ := ho5.ints.shape
  generalize bk.length = nk at G5
  subst G5
  have hp5 : OwnP w5 w2.heap.size w5.heap.size (.slice p4 no q4) (.slice p5 nk q5) os bk := (OwnH.below hp4 hb5).addRoots ho5 sz hb5.size
  have om := OwnA.hp o5 hp5 (by have := HW1.out; omega) (by have := hb5.size; omega)
  have om2 := om.cell ⟨w.heap.size + 1 + 1, 4, none⟩ (by simp) (.slice p5 nk q5)
  have r16 : RowA _ _ _ _ _ _ _ := Row.other r15 ⟨w.heap.size + 1 + 1, 4, none⟩ (by simp) (.slice p5 nk q5)
  have r26 : RowA (w5.setCell ⟨w.heap.size + 1 + 1, 4, none⟩ (.slice p5 nk q5)) _ (.slice p1 nf q1) (.slice p2 nl q2) (.slice p3 nr q3) (.slice p4 no q4) (.slice p5 nk q5) := (Row.set r25 4 _).trans rfl
  have B6 := B5.setCell (p := ⟨w.heap.size + 1 + 1, 4, none⟩) (by simp; omega) (.slice p5 nk q5)
  have f4 := Row.frozen r25 4
  have k4 := Row.cell r25 4
  have R1 := Lib.hid r16; have R2 := Lib.hid r26; have HB := Lib.hid B6; have HO := Lib.hid om2
  clear r14 r24 B4 o4 hb5 ho5 c4 r15 r25 B5 o5 hp5 om om2 r16 r26 B6 hp4 sz
  go_wp2_with (first
    | (refine wl_loadA rfl _ rfl (w.heap.size + 1 + 1) _ _ _ _ _ R2.out rfl ?_)
    | (refine wl_storeA rfl _ _ rfl (w.heap.size + 1) (.slice p1 nf q1) (.slice p2 nl q2) (.slice p3 nr q3) (.slice p4 no q4) (.slice p5 nk q5) _ _ _ _ _ R1.out rfl rfl rfl rfl rfl rfl rfl ?_))
  refine bodyPost_ret (res_row Try.results45 (Row.put R1.out (a5 (.slice p1 nf q1) (.slice p2 nl q2) (.slice p3 nr q3) (.slice p4 no q4) (.slice p5 nk q5))) rfl Try.underlying59 rfl info_ages) rfl ⟨_, _, _, _, _, rfl, ?_, below_setRow HB.out (by omega) _⟩
  have := HO.out.whole (w.heap.size + 1) (by omega) (a5 (.slice p1 nf q1) (.slice p2 nl q2) (.slice p3 nr q3) (.slice p4 no q4) (.slice p5 nk q5))
  rw [size_setRow, World.size_setCell]
  exact this.wide (by omega) (Nat.le_refl _)
end Go.Proofs.Ytbmfkgfmibpkjaa
namespace Go.Proofs.Ytbmfkgfmibpkjaa
open Go.RowKit Ph

set_option maxHeartbeats 1600000 in
theorem c_thingsOfB (v : Value) (bs : List Bool) (w : World) (hz : BoolsAt w v bs) (hm : bs.length ≤ 12) : Calls Try.prog 159 #[v, .bool true] w fun e w' => ∃ v', e = .returned v' ∧ Own w' w.heap.size v' (ofB bs) ∧ Below w.heap.size w w' := by
  obtain ⟨i0, hi, hz0, hz1, hz2⟩ := info_parts info_int
  have HZ := Lib.hid hz
  obtain ⟨va, vc, rfl⟩ := hz.shape
  clear hz
  have HO : Hid (ofB bs = ofBTo bs bs.length) := rfl
  generalize ofB bs = out at *
  generalize hn : bs.length = n at *
  have HN := Lib.hid hn; clear hn
  go_enter Try.func159, Try.ntmps159
  go_wp2
  go_loopw [5, 9] (fun t i wr => ∃ k : Nat, k ≤ n ∧ i = .int .i64 k ∧ Hid (Own wr w.heap.size t (ofBTo bs k)) ∧ Hid (Below w.heap.size w wr)) (fun _ i _ => n - (intOf i).toNat)
  case atStart => exact ⟨0, Nat.zero_le _, rfl, by rw [ofBTo_zero]; exact Own.nil _ _, Below.refl _ _⟩
  case round =>
    obtain ⟨k, hk, rfl, ho, hb⟩ := hrel
    by_cases hlt : k < n
    · obtain ⟨g, off, rfl, hc⟩ := (HZ.out.below hb.out).at' (by omega)
      have q := hc k hlt
      have i1 : (k : Int) < (n : Int) := by omega
      have i2 : (0 : Int) ≤ (k : Int) := by omega
      clear hc
      have HY := Lib.hid (ofBTo_yes (bs := bs) (n := k))
      have HNO := Lib.hid (ofBTo_no (bs := bs) (n := k))
      have HL := Lib.hid (ofBTo_len bs k)
      generalize bs.getD k false = x at *
      cases x
      · have HE := Lib.hid (HNO.out rfl)
        clear HY HNO
        go_wp2
        go_roundw
        case rel => exact ⟨k + 1, by omega, by go_num, by rw [HE.out]; exact ho, hb⟩
        case measure => simp [intOf]; omega
      · have HE := Lib.hid (HY.out rfl)
        have HS := Lib.hid (src_int wr (k : Int))
        have HB1 := Lib.hid (hb.out.alloc hb.out.size (.cells #[.int .i64 (k : Int)] 3))
        have HO1 := Lib.hid (ho.out.below (below1 wr (.cells #[.int .i64 (k : Int)] 3)))
        clear HY HNO
        go_wp2_with (at_builtin; refine wl_appOwn _ rfl _ _ 24 rfl w.heap.size 3 i0 (.int .i64 0) 8 Try.underlying24 hi hz0 hz1 hz2 rfl u5 _ _ rfl HO1.out _ _ rfl HS.out (by have := HL.out; simp; unfold maxLen; omega) (by have := HL.out; simp; omega) HB1.out.size ?_; intro v1 w1 ho1 hg1 hbl; have O1 : Hid (Own w1 w.heap.size v1 (ofBTo bs k ++ [(k : Int)])) := by { unfold Hid Own; rw [List.map_append, List.length_append]; exact ho1 }; have B1 := Lib.hid (HB1.out.grown hg1 HB1.out.size (fun g' hg' => (owns_lt HO1.out hg').1)); clear ho1 hg1 hbl)
        go_roundw
        case rel => exact ⟨k + 1, by omega, by go_num, by rw [HE.out]; exact O1, B1⟩
        case measure => simp [intOf]; omega
    · have hkn : Hid (k = n) := by unfold Hid; omega
      go_wp2
      go_ret
      exact ⟨_, rfl, by rw [HO.out, ← hkn.out]; exact ho.out, hb.out⟩
theorem any_take_succ {p : Int → Bool} {zs : List Int} {k : Nat} (h : k < zs.length) : (zs.take (k + 1)).any p = ((zs.take k).any p || p (zs.getD k 0)) := by
  have e : zs.getD k 0 = zs[k] := by simp [List.getD, List.getElem?_eq_getElem h]
  rw [List.take_succ_eq_append_getElem h, List.any_append, e]; simp
theorem any_true {p : Int → Bool} {zs : List Int} {k : Nat} (h : k < zs.length) (hp : p (zs.getD k 0) = true) : zs.any p = true := by
  rw [List.any_eq_true]
  exact ⟨_, getD_memI h, hp⟩
end Go.Proofs.Ytbmfkgfmibpkjaa
namespace Go.Proofs.Ytbmfkgfmibpkjaa
open Go.RowKit Ph

set_option maxHeartbeats 1600000 in
theorem c_liveOnes (a b c o k : Value) (ls : List Bool) (w : World) (hl : BoolsAt w b ls) (hm : ls.length ≤ 12) : Calls Try.prog 112 #[av a b c o k] w fun e w' => ∃ v', e = .returned v' ∧ Own w' w.heap.size v' (ofB ls) ∧ Below w.heap.size w w' := by
  have b0 := below1 w (.cells (a5 a b c o k) 59)
  have L0 := Lib.hid (hl.below b0); have B0 := Lib.hid b0
  clear hl b0
  go_enter Try.func112, Try.ntmps112
  go_wp2_with fail
  refine (c_thingsOfB b ls _ L0.out hm).mono ?_
  rintro e w1 ⟨v1, rfl, ho, hb⟩
  have O1 := Lib.hid (Own.mono ho B0.out.size); have B1 := Lib.hid (bst B0.out hb B0.out.size)
  clear ho hb
  go_wp2_with fail
  go_ret
  exact ⟨_, rfl, O1.out, B1.out⟩
set_option maxHeartbeats 1600000 in
theorem c_oldOnes (a b c o k : Value) (ls : List Bool) (w : World) (hl : BoolsAt w o ls) (hm : ls.length ≤ 12) : Calls Try.prog 111 #[av a b c o k] w fun e w' => ∃ v', e = .returned v' ∧ Own w' w.heap.size v' (ofB ls) ∧ Below w.heap.size w w' := by
  have b0 := below1 w (.cells (a5 a b c o k) 59)
  have L0 := Lib.hid (hl.below b0); have B0 := Lib.hid b0
  clear hl b0
  go_enter Try.func111, Try.ntmps111
  go_wp2_with fail
  refine (c_thingsOfB o ls _ L0.out hm).mono ?_
  rintro e w1 ⟨v1, rfl, ho, hb⟩
  have O1 := Lib.hid (Own.mono ho B0.out.size); have B1 := Lib.hid (bst B0.out hb B0.out.size)
  clear ho hb
  go_wp2_with fail
  go_ret
  exact ⟨_, rfl, O1.out, B1.out⟩
set_option maxHeartbeats 1600000 in
theorem c_isYoung (a b c o k : Value) (h : H) (os : List Bool) (z : Int) (w : World) (hl : BoolsAt w b h.l) (ho : BoolsAt w o os) (hn : os.length = h.l.length) : Calls Try.prog 161 #[av a b c o k, .int .i64 z] w fun e w' => e = .returned (.bool (yB h os z)) ∧ Below w.heap.size w w' := by
  have b0 := below1 w (.cells (a5 a b c o k) 59)
  have L0 := Lib.hid (hl.below b0); have B0 := Lib.hid b0; have O0 := Lib.hid (ho.below b0)
  have R0 := Lib.hid (Row.new w 59 (a5 a b c o k))
  have HE : Hid (yB h os z = (liveB h.l z && !os.getD z.toNat false)) := rfl
  have HL := Lib.hid (fun q : liveB h.l z = true => liveB_lt q)
  clear hl b0 ho
  generalize hx : liveB h.l z = x at *
  have HX := Lib.hid hx; clear hx
  cases x
  · have HE2 : Hid (yB h os z = false) := by unfold Hid; rw [HE.out]; rfl
    clear HE HL
    generalize yB h os z = y at *
    go_enter Try.func161, Try.ntmps161
    go_wp2_with (first
      | (go_at_call 193; refine (c_isLive a b c h.l z _ L0.out).mono ?_; rintro e w1 ⟨rfl, hb⟩; rw [HX.out]; have B1 := Lib.hid (bst B0.out hb B0.out.size); clear hb))
    go_ret
    exact ⟨r_b HE2.out.symm, B1.out⟩
  · obtain ⟨h0, h1⟩ := HL.out rfl
    obtain ⟨t, rfl⟩ : ∃ t : Nat, z = t := ⟨z.toNat, by omega⟩
    have HE2 : Hid (yB h os (t : Int) = !os.getD t false) := by unfold Hid; rw [HE.out]; simp
    have htn : t < os.length := by omega
    obtain ⟨oa, oc, rfl⟩ := O0.out.shape
    have HN := Lib.hid hn
    clear HE HL h0 h1 hn
    generalize hno : os.length = n at *
    have HNO := Lib.hid hno; clear hno
    have i1 : (t : Int) < (n : Int) := by omega
    have i2 : (0 : Int) ≤ (t : Int) := by omega
    generalize yB h os (t : Int) = y at *
    go_enter Try.func161, Try.ntmps161
    go_wp2_with fail
    refine (c_isLive a b c h.l (t : Int) _ L0.out).mono ?_
    rintro e w1 ⟨rfl, hb⟩
    rw [HX.out]
    have B1 := Lib.hid (bst B0.out hb B0.out.size)
    have q3 := Row.cell (Row.below R0.out hb) 3
    obtain ⟨ob, oo, rfl, hc⟩ := (O0.out.below hb).at' (by omega)
    have q := hc t htn
    clear hb hc htn
    generalize os.getD t false = x at *
    have HE3 := Lib.hid HE2.out
    cases x
    · go_wp2_with fail
      go_ret
      exact ⟨r_b HE3.out.symm, B1.out⟩
    · go_wp2_with fail
      go_ret
      exact ⟨r_b HE3.out.symm, B1.out⟩
/-- The references of which one is young. -/
abbrev youngF (x : Value) : Value := .func (.func 161) #[x] #[]
set_option maxHeartbeats 3200000 in
theorem c_indexYoung (v a b c o k : Value) (zs : List Int) (h : H) (os : List Bool) (w : World) (hz : IntsAt w v zs) (hl : BoolsAt w b h.l) (ho : BoolsAt w o os) (hn : os.length = h.l.length) (hzl : zs.length ≤ 12) : Calls Try.prog 182 #[v, youngF (av a b c o k)] w fun e w' => ∃ q : Int, e = .returned (.int .i64 q) ∧ decide (0 ≤ q) = zs.any (yB h os) ∧ Below w.heap.size w w' := by
  have HZ := Lib.hid hz; have HL := Lib.hid hl; have HO := Lib.hid ho; have HNN := Lib.hid hn
  obtain ⟨va, vc, rfl⟩ := hz.shape
  clear hz hl ho hn
  generalize hn : zs.length = n at *
  have HN := Lib.hid hn; clear hn
  go_enter Try.func182, Try.ntmps182
  go_wp2
  go_loopw [8] (fun i wr => ∃ j : Nat, j ≤ n ∧ i = .int .i64 j ∧ Hid ((zs.take j).any (yB h os) = false) ∧ Hid (Below w.heap.size w wr)) (fun i _ => n - (intOf i).toNat)
  case atStart => exact ⟨0, Nat.zero_le _, rfl, rfl, Below.refl _ _⟩
  case round =>
    obtain ⟨j, hj, rfl, ht, hb⟩ := hrel
    by_cases hlt : j < n
    · obtain ⟨g, off, rfl, hq⟩ := (HZ.out.below hb.out).at' (by omega)
      have q := hq j hlt
      have i1 : (j : Int) < (n : Int) := by omega
      have i2 : (0 : Int) ≤ (j : Int) := by omega
      have hkl : j < zs.length := by rw [HN.out]; exact hlt
      have HT := Lib.hid (any_take_succ (p := yB h os) hkl)
      have HY := Lib.hid (any_true (p := yB h os) hkl)
      have L1 := Lib.hid (HL.out.below hb.out); have O1 := Lib.hid (HO.out.below hb.out)
      clear hq hkl
      generalize zs.getD j 0 = z at *
      go_wp2_with fail
      refine (c_isYoung a b c o k h os z _ L1.out O1.out HNN.out).mono ?_
      rintro e w1 ⟨rfl, hb1⟩
      have B1 := Lib.hid (bst hb.out hb1 hb.out.size)
      clear hb1 L1 O1 hb
      generalize yB h os z = x at *
      cases x
      · have HE : Hid ((zs.take (j + 1)).any (yB h os) = false) := by unfold Hid; rw [HT.out, ht.out]; rfl
        clear HT HY ht
        go_wp2
        go_roundw
        case rel => exact ⟨j + 1, by omega, by go_num, HE, B1⟩
        case measure => simp [intOf]; omega
      · have HE := Lib.hid (HY.out rfl)
        clear HT HY ht
        go_wp2
        go_ret
        exact ⟨_, rfl, by rw [HE.out]; exact decide_eq_true (by omega), B1.out⟩
    · have HE : Hid (zs.any (yB h os) = false) := by
        unfold Hid
        have := ht.out
        rwa [List.take_of_length_le (by rw [HN.out]; omega)] at this
      go_wp2
      go_ret
      exact ⟨_, rfl, by rw [HE.out]; rfl, hb.out⟩
set_option maxHeartbeats 1600000 in
theorem c_containsYoung (v a b c o k : Value) (zs : List Int) (h : H) (os : List Bool) (w : World) (hz : IntsAt w v zs) (hl : BoolsAt w b h.l) (ho : BoolsAt w o os) (hn : os.length = h.l.length) (hzl : zs.length ≤ 12) : Calls Try.prog 143 #[v, youngF (av a b c o k)] w fun e w' => e = .returned (.bool (zs.any (yB h os))) ∧ Below w.heap.size w w' := by
  have HI := Lib.hid (c_indexYoung v a b c o k zs h os w hz hl ho hn hzl)
  obtain ⟨va, vc, rfl⟩ := hz.shape
  clear hz hl ho hn hzl
  generalize zs.length = n at *
  go_enter Try.func143, Try.ntmps143
  go_wp2_with fail
  refine HI.out.mono ?_
  rintro e w1 ⟨q, rfl, hk, hb⟩
  have HK := Lib.hid hk; have HB := Lib.hid hb
  clear hk hb HI
  go_wp2
  go_ret
  exact ⟨r_b HK.out, HB.out⟩
end Go.Proofs.Ytbmfkgfmibpkjaa
namespace Go.Proofs.Ytbmfkgfmibpkjaa.Ph
theorem filter_take {p : Int → Bool} {zs : List Int} {k : Nat} (h : k < zs.length) : (zs.take (k + 1)).filter p = (zs.take k).filter p ++ (if p (zs.getD k 0) = true then [zs.getD k 0] else []) := by
  have e : zs.getD k 0 = zs[k] := by simp [List.getD, List.getElem?_eq_getElem h]
  rw [List.take_succ_eq_append_getElem h, List.filter_append, e]
  cases q : p zs[k] <;> simp [q]
theorem ofB_get {bs : List Bool} {k : Nat} (h : k < (ofB bs).length) : ∃ t : Nat, (ofB bs).getD k 0 = t ∧ bs.getD t false = true := by
  obtain ⟨i, h1, h2⟩ := mem_ofB.1 (mem_getD.2 ⟨k, h, rfl⟩)
  exact ⟨i, h2, h1⟩
end Go.Proofs.Ytbmfkgfmibpkjaa.Ph
namespace Go.Proofs.Ytbmfkgfmibpkjaa
open Go.RowKit Ph
set_option maxHeartbeats 3200000 in
set_option maxRecDepth 100000 in
theorem c_oldNaming (a b c o k : Value) (h : H) (os : List Bool) (w : World) (hA : HeapAt w a b c h) (hG : Ph.Good h) (ho : BoolsAt w o os) (hn : os.length = h.f.length) : Calls Try.prog 115 #[av a b c o k] w fun e w' => ∃ v', e = .returned v' ∧ Own w' w.heap.size v' (nmL h os) ∧ Below w.heap.size w w' := by
  obtain ⟨i0, hi, hz0, hz1, hz2⟩ := info_parts info_int
  have b0 := below1 w (.cells (a5 a b c o k) 59)
  have A0 := Lib.hid (hA.below b0); have B0 := Lib.hid b0; have O0 := Lib.hid (ho.below b0)
  have R0 := Lib.hid (Row.new w 59 (a5 a b c o k))
  have hL := hG.ll
  have HN12 : Hid (os.length ≤ 12) := by unfold Hid; rw [hn]; exact hG.n
  have HNL : Hid (os.length = h.l.length) := by unfold Hid; rw [hn, hL]
  have HN := Lib.hid hn
  have HNM : Hid (nmL h os = (ofB os).filter fun z => nmB h os z.toNat) := nmL_eq h os
  have HFR : Hid (∀ i, i < h.f.length → (h.f.getD i []).length ≤ 3) := fun i q => (hG.row i q).1
  have HLE := Lib.hid (ofB_len os)
  have HGT := Lib.hid (fun k q => ofB_get (bs := os) (k := k) q)
  clear hA hG b0 ho hn hL
  go_enter Try.func115, Try.ntmps115
  go_wp2_with fail
  refine (c_oldOnes a b c o k os _ O0.out HN12.out).mono ?_
  rintro e w1 ⟨v1, rfl, ho1, hb1⟩
  have A1 := Lib.hid (A0.out.below hb1); have O1 := Lib.hid (O0.out.below hb1); have B1 := Lib.hid (bst B0.out hb1 B0.out.size)
  have R1 := Lib.hid (Row.below R0.out hb1)
  obtain ⟨v1a, v1c, rfl⟩ := ho1.ints.shape
  have V1 := Lib.hid ho1.ints
  clear ho1 hb1 A0 O0 B0 R0
  generalize hml : (ofB os).length = m at *
  have HML := Lib.hid hml; clear hml
  have hm12 : m ≤ 12 := by have := HLE.out; have := HN12.out; omega
  go_wp2_with fail
  go_loopw [3, 9] (fun t i wr => ∃ j : Nat, j ≤ m ∧ i = .int .i64 j ∧ Hid (Own wr w1.heap.size t (((ofB os).take j).filter fun z => nmB h os z.toNat)) ∧ Hid (Below w1.heap.size w1 wr)) (fun _ i _ => m - (intOf i).toNat)
  case atStart => exact ⟨0, Nat.zero_le _, rfl, Own.nil _ _, Below.refl _ _⟩
  case round =>
    obtain ⟨j, hj, rfl, ht, hb⟩ := hrel
    by_cases hlt : j < m
    · obtain ⟨g, off, rfl, hq⟩ := (V1.out.below hb.out).at' (by omega)
      have q := hq j hlt
      have i1 : (j : Int) < (m : Int) := by omega
      have i2 : (0 : Int) ≤ (j : Int) := by omega
      have hkl : j < (ofB os).length := by rw [HML.out]; exact hlt
      have HT := Lib.hid (filter_take (p := fun z => nmB h os z.toNat) hkl)
      obtain ⟨t, htz, hto⟩ := HGT.out j hlt
      have htl : t < h.f.length := by have := getD_lt hto; have := HN.out; omega
      have HLT : Hid ((((ofB os).take j).filter fun z => nmB h os z.toNat).length ≤ 12) := by
        unfold Hid
        have := List.length_filter_le (fun z => nmB h os z.toNat) ((ofB os).take j)
        have h2 := List.length_take_le j (ofB os)
        have := HLE.out; have := HN12.out; omega
      have A2 := Lib.hid (A1.out.below hb.out); have O2 := Lib.hid (O1.out.below hb.out)
      have R2 := Lib.hid (Row.below R1.out hb.out)
      obtain ⟨fa, fc, rfl⟩ := A2.out.f.shape
      obtain ⟨fb, fo, rfl, hcf⟩ := A2.out.f.at' (by omega)
      obtain ⟨u, quf, huf⟩ := hcf t htl
      have HU := Lib.hid huf
      have HUL : Hid ((h.f.getD t []).length ≤ 12) := by unfold Hid; have := HFR.out t htl; omega
      have HNB : Hid (nmB h os t = (h.f.getD t []).any (yB h os)) := rfl
      have HTZ : Hid (nmB h os ((ofB os).getD j 0).toNat = nmB h os t) := by unfold Hid; rw [htz]; simp
      have HTZ2 := Lib.hid htz
      rw [htz] at q
      have t1 : (t : Int) < (h.f.length : Int) := by omega
      have t0 : (0 : Int) ≤ (t : Int) := by omega
      obtain ⟨ua, uc, rfl⟩ := huf.shape
      have c0 := R2.out.cell 0
      have c1 := R2.out.cell 1
      have c2 := R2.out.cell 2
      have c3' := R2.out.cell 3
      have c4 := R2.out.cell 4
      clear hq hkl hcf huf hto htl htz
      generalize h.f.length = nf at *
      generalize hul : (h.f.getD t []).length = ul at *
      have HULL := Lib.hid hul; clear hul
      have bd := below_drew hb.out
      have A3 := Lib.hid (A1.out.below bd); have O3 := Lib.hid (O1.out.below bd)
      have R3 := Lib.hid (Row.below R1.out bd)
      have L3 := Lib.hid bd
      have q3 : wr.drew.cell? ⟨fb, fo + t, none⟩ = some (.slice ua ul uc) := quf
      have HU3 := Lib.hid (HU.out.below (below_drew (Below.refl wr.heap.size wr)))
      have TD := Lib.hid (Own.below ht.out (below_drew (Below.refl wr.heap.size wr)))
      clear bd quf
      go_wp2_with fail
      clear q c0 c1 c2 c3' c4
      refine wp_region_held_drew (S := (fun w' => w'.cell? ⟨w.heap.size, 0, none⟩ = some (.slice (some ⟨fb, fo, none⟩) nf fc) ∧ w'.cell? ⟨w.heap.size, 1, none⟩ = some b ∧ w'.cell? ⟨w.heap.size, 2, none⟩ = some c ∧ w'.cell? ⟨w.heap.size, 3, none⟩ = some o ∧ w'.cell? ⟨w.heap.size, 4, none⟩ = some k ∧ w'.cell? ⟨fb, fo + t, none⟩ = some (.slice ua ul uc))) (by kernel_rfl) (⟨Row.cell R3.out 0, Row.cell R3.out 1, Row.cell R3.out 2, Row.cell R3.out 3, Row.cell R3.out 4, q3⟩) (fun hHeld => ?_)
      generalize wr.drew = x1 at *
      refine wpAnyH_take (i := 0) (v := ?va0x1) rfl (by kernel_rfl) (by kernel_rfl) (by kernel_rfl) (fun _ _ _ h => h) (Or.inl ⟨by rfl, ?hy0x1⟩) (by assumption) ?rest0x1
      case hy0x1 => (intro w hSw; (try dsimp only at hSw); go_simp; try with_reducible rfl)
      (try simp only [Act.put, List.getElem_toArray, List.getElem_cons_zero, List.setIfInBounds_toArray, List.set_cons_zero, List.set_cons_succ])
      refine wpAnyH_take (i := 1) (v := ?va1x2) rfl (by kernel_rfl) (by kernel_rfl) (by kernel_rfl) (fun _ _ _ h => h) (Or.inl ⟨by rfl, ?hy1x2⟩) (by assumption) ?rest1x2
      case hy1x2 => (intro w hSw; (try dsimp only at hSw); go_simp; try with_reducible rfl)
      (try simp only [Act.put, List.getElem_toArray, List.getElem_cons_zero, List.getElem_cons_succ, List.setIfInBounds_toArray, List.set_cons_zero, List.set_cons_succ])
      refine wpAnyH_take (i := 2) (v := ?va2x3) rfl (by kernel_rfl) (by kernel_rfl) (by kernel_rfl) (fun _ _ _ h => h) (Or.inl ⟨by rfl, ?hy2x3⟩) (by assumption) ?rest2x3
      case hy2x3 => (intro w hSw; (try dsimp only at hSw); go_simp; try with_reducible rfl)
      (try simp only [Act.put, List.getElem_toArray, List.getElem_cons_zero, List.getElem_cons_succ, List.setIfInBounds_toArray, List.set_cons_zero, List.set_cons_succ])
      refine wpAnyH_take (i := 3) (v := ?va3x4) rfl (by kernel_rfl) (by kernel_rfl) (by kernel_rfl) (fun _ _ _ h => h) (Or.inl ⟨by rfl, ?hy3x4⟩) (by assumption) ?rest3x4
      case hy3x4 => (intro w hSw; (try dsimp only at hSw); go_simp; try with_reducible rfl)
      (try simp only [Act.put, List.getElem_toArray, List.getElem_cons_zero, List.getElem_cons_succ, List.setIfInBounds_toArray, List.set_cons_zero, List.set_cons_succ])
      refine wpAnyH_take (i := 4) (v := ?va4x5) rfl (by kernel_rfl) (by kernel_rfl) (by kernel_rfl) (fun _ _ _ h => h) (Or.inl ⟨by rfl, ?hy4x5⟩) (by assumption) ?rest4x5
      case hy4x5 => (intro w hSw; (try dsimp only at hSw); go_simp; try with_reducible rfl)
      (try simp only [Act.put, List.getElem_toArray, List.getElem_cons_zero, List.getElem_cons_succ, List.setIfInBounds_toArray, List.set_cons_zero, List.set_cons_succ])
      refine wpAnyH_take (i := 5) (v := ?va5x6) rfl (by kernel_rfl) (by kernel_rfl) (by kernel_rfl) (fun _ _ _ h => h) (Or.inl ⟨by rfl, ?hy5x6⟩) (by assumption) ?rest5x6
      case hy5x6 => (intro w hSw; (try dsimp only at hSw); go_simp; try with_reducible rfl)
      (try simp only [Act.put, List.getElem_toArray, List.getElem_cons_zero, List.getElem_cons_succ, List.setIfInBounds_toArray, List.set_cons_zero, List.set_cons_succ])
      refine wpAnyH_take (i := 6) (v := ?va6x7) rfl (by kernel_rfl) (by kernel_rfl) (by kernel_rfl) (fun _ _ _ h => h) (Or.inl ⟨by rfl, ?hy6x7⟩) (by assumption) ?rest6x7
      case hy6x7 => (intro w hSw; (try dsimp only at hSw); go_simp; try with_reducible rfl)
      (try simp only [Act.put, List.getElem_toArray, List.getElem_cons_zero, List.getElem_cons_succ, List.setIfInBounds_toArray, List.set_cons_zero, List.set_cons_succ])
      refine wpAnyH_take (i := 7) (v := ?va7x8) rfl (by kernel_rfl) (by kernel_rfl) (by kernel_rfl) (fun _ _ _ h => h) (Or.inl ⟨by rfl, ?hy7x8⟩) (by assumption) ?rest7x8
      case hy7x8 => (intro w hSw; (try dsimp only at hSw); go_simp; try with_reducible rfl)
      (try simp only [Act.put, List.getElem_toArray, List.getElem_cons_zero, List.getElem_cons_succ, List.setIfInBounds_toArray, List.set_cons_zero, List.set_cons_succ])
      refine wpAnyH_ready (rs := [8]) (by kernel_rfl) (by simp) ?_
      refine AllReadyH.cons rfl (fun K hK => ?_) AllReadyH.nil
      go_simp
      refine (c_containsYoung _ _ b c o k (h.f.getD t []) h os _ HU3.out A3.out.l O3.out HNL.out (by rw [HULL.out]; exact HUL.out)).mono ?_
      rintro e x2 ⟨rfl, hb2⟩
      rw [← HNB.out]
      replace q3 := cellBelow hb2 (Nat.le_refl _) q3
      replace R3 := Lib.hid (Row.below R3.out hb2); replace L3 := Lib.hid (bst L3.out hb2 L3.out.size)
      have T3 := Lib.hid (Own.below TD.out hb2)
      refine hK.out _ _ (⟨Row.cell R3.out 0, Row.cell R3.out 1, Row.cell R3.out 2, Row.cell R3.out 3, Row.cell R3.out 4, q3⟩) (fun hHeld => ?_)
      clear hK K hb2
      (try simp only [Act.put, List.getElem_toArray, List.getElem_cons_zero, List.getElem_cons_succ, List.setIfInBounds_toArray, List.set_cons_zero, List.set_cons_succ])
      refine wpAnyH_done (by kernel_rfl) ?_ _
      clear q3 hHeld
      rw [HTZ.out, HTZ2.out] at HT
      generalize nmB h os t = an at *
      cases an
      · have HE : Hid (((ofB os).take (j + 1)).filter (fun z => nmB h os z.toNat) = ((ofB os).take j).filter fun z => nmB h os z.toNat) := by unfold Hid; rw [HT.out]; simp
        go_wp2_with fail
        go_roundw
        case rel => exact ⟨j + 1, by omega, by go_num, by rw [HE.out]; exact T3, L3⟩
        case measure => simp [intOf]; omega
      · have HE : Hid (((ofB os).take (j + 1)).filter (fun z => nmB h os z.toNat) = (((ofB os).take j).filter fun z => nmB h os z.toNat) ++ [(t : Int)]) := by unfold Hid; rw [HT.out]; simp
        have HS := Lib.hid (src_int x2 (t : Int))
        have ba := below1 x2 (.cells #[.int .i64 (t : Int)] 3)
        have HO1 := Lib.hid (T3.out.below ba)
        have HB1 := Lib.hid (bst L3.out ba L3.out.size)
        have HW : Hid (w1.heap.size ≤ (x2.alloc (.cells #[.int .i64 (t : Int)] 3)).heap.size) := HB1.out.size
        clear ba
        generalize hfl : ((ofB os).take j).filter (fun z => nmB h os z.toNat) = fl at *
        clear hfl
        go_wp2_with (at_builtin; refine wl_appOwn _ rfl _ _ 129 rfl w1.heap.size 3 i0 (.int .i64 0) 8 Try.underlying129 hi hz0 hz1 hz2 rfl u3 _ _ rfl HO1.out _ _ rfl HS.out (by have := HLT.out; simp; unfold maxLen; omega) (by have := HLT.out; simp; omega) HW.out ?_; intro v4 x4 ho4 hg4 hbl; have O4 : Hid (Own x4 w1.heap.size v4 (fl ++ [(t : Int)])) := by { unfold Hid Own; rw [List.map_append, List.length_append]; exact ho4 }; have B4 := Lib.hid (HB1.out.grown hg4 HB1.out.size (fun g' hg' => (owns_lt HO1.out hg').1)); clear ho4 hg4 hbl)
        go_roundw
        case rel => exact ⟨j + 1, by omega, by go_num, by rw [HE.out]; exact O4, B4⟩
        case measure => simp [intOf]; omega
    · have HE : Hid (((ofB os).take j).filter (fun z => nmB h os z.toNat) = nmL h os) := by
        unfold Hid
        rw [HNM.out, List.take_of_length_le (by rw [HML.out]; omega)]
      go_wp2_with fail
      go_ret
      exact ⟨_, rfl, by rw [← HE.out]; exact Own.mono ht.out B1.out.size, bst B1.out hb.out B1.out.size⟩
end Go.Proofs.Ytbmfkgfmibpkjaa
namespace Go.Proofs.Ytbmfkgfmibpkjaa.Ph
theorem agesB_1 {h : H} {os : List Bool} {bk : List Int} (q : good h = false) : agesB h os bk = false := by unfold agesB; rw [q]; rfl
theorem agesB_2 {h : H} {os : List Bool} {bk : List Int} (q : ¬ os.length = h.l.length) : agesB h os bk = false := by unfold agesB; rw [decide_eq_false q]; simp
theorem agesB_3 {h : H} {os : List Bool} {bk : List Int} (q1 : good h = true) (q2 : os.length = h.l.length) : agesB h os bk = (subB (ofB h.l) (ofB os) && riseB bk && subB (ofB os) bk && subB bk (nmL h os)) := by
  unfold agesB; rw [q1, decide_eq_true q2]; simp [Bool.and_assoc]
end Go.Proofs.Ytbmfkgfmibpkjaa.Ph
namespace Go.Proofs.Ytbmfkgfmibpkjaa
open Go.RowKit Ph
set_option maxHeartbeats 6400000 in
set_option maxRecDepth 100000 in
theorem c_GoodAges (a b c o k : Value) (h : H) (os : List Bool) (bk : List Int) (w : World) (hA : HeapAt w a b c h) (hO : BoolsAt w o os) (hK : IntsAt w k bk) (hkm : bk.length ≤ 1048576) : Calls Try.prog 46 #[av a b c o k] w fun e w' => e = .returned (.bool (agesB h os bk)) ∧ Below w.heap.size w w' := by
  have b0 := below1 w (.cells (a5 a b c o k) 59)
  have A0 := Lib.hid (hA.below b0); have O0 := Lib.hid (hO.below b0); have K0 := Lib.hid (hK.below b0)
  have B0 := Lib.hid b0
  have R0 := Lib.hid (Row.new w 59 (a5 a b c o k))
  have G1 := Lib.hid (fun q => agesB_1 (h := h) (os := os) (bk := bk) q)
  have G2 := Lib.hid (fun q => agesB_2 (h := h) (os := os) (bk := bk) q)
  have G3 := Lib.hid (fun q1 q2 => agesB_3 (h := h) (os := os) (bk := bk) q1 q2)
  have GG := Lib.hid (good_iff (h := h)).1
  have HC := Lib.hid (c_GoodHeap a b c h _ A0.out)
  obtain ⟨la, lc, rfl⟩ := hA.l.shape
  obtain ⟨oa, oc, rfl⟩ := hO.shape
  obtain ⟨ka, kc, rfl⟩ := hK.shape
  have HKM := Lib.hid hkm; have HKB : Hid (bk.length ≤ 9223372036854775806) := by unfold Hid; omega
  clear hA hO hK b0 hkm
  generalize hag : agesB h os bk = ag at *
  clear hag
  generalize hgd : good h = gd at *
  have HGD := Lib.hid hgd; clear hgd
  go_enter Try.func46, Try.ntmps46
  cases gd
  · have HE := Lib.hid (G1.out rfl)
    go_wp2_with (first
      | (go_at_call 106; refine HC.out.mono ?_; rintro e w1 ⟨rfl, hb⟩; have B1 := Lib.hid (bst B0.out hb B0.out.size); clear hb))
    go_ret
    exact ⟨r_b HE.out.symm, B1.out⟩
  have G := Lib.hid (GG.out rfl)
  go_wp2_with fail
  refine HC.out.mono ?_
  rintro e w1 ⟨rfl, hb⟩
  replace A0 := Lib.hid (A0.out.below hb); replace O0 := Lib.hid (O0.out.below hb); replace K0 := Lib.hid (K0.out.below hb)
  replace R0 := Lib.hid (Row.below R0.out hb); replace B0 := Lib.hid (bst B0.out hb B0.out.size)
  clear hb
  have c0 := R0.out.cell 0
  have c1 := R0.out.cell 1
  have c2 := R0.out.cell 2
  have c3' := R0.out.cell 3
  have c4 := R0.out.cell 4
  by_cases hl : os.length = h.l.length
  · have HG3 := Lib.hid (G3.out (by first | rfl | trivial) hl)
    have HL12 : Hid (h.l.length ≤ 12) := by unfold Hid; have := G.out.ll; have := G.out.n; omega
    have hl2 := hl.symm
    clear hl G1 G2 G3 GG
    generalize hno : os.length = no at *
    generalize hnl : h.l.length = nl at *
    subst hl2
    have HNL := Lib.hid hnl; clear hnl
    have HNO := Lib.hid hno; clear hno
    have HL : Hid (os.length = h.l.length) := by unfold Hid; rw [HNO.out, HNL.out]
    have bd := below_drew (Below.refl w1.heap.size w1)
    have A2 := Lib.hid (A0.out.below bd); have O2 := Lib.hid (O0.out.below bd); have K2 := Lib.hid (K0.out.below bd)
    have R2 := Lib.hid (Row.below R0.out bd); have B2 := Lib.hid (bst B0.out bd B0.out.size)
    clear bd A0 O0 K0
    have HOL : Hid (os.length ≤ 12) := by unfold Hid; rw [HNO.out]; exact HL12.out
    have i1 : ((nl : Int) == (nl : Int)) = true := by simp
    go_wp2_with fail
    clear c0 c1 c2 c3' c4 R0 B0
    refine wp_region_held_drew (S := (fun w' => w'.cell? ⟨w.heap.size, 0, none⟩ = some a ∧ w'.cell? ⟨w.heap.size, 1, none⟩ = some (.slice la nl lc) ∧ w'.cell? ⟨w.heap.size, 2, none⟩ = some c ∧ w'.cell? ⟨w.heap.size, 3, none⟩ = some (.slice oa nl oc) ∧ w'.cell? ⟨w.heap.size, 4, none⟩ = some (.slice ka bk.length kc))) (by kernel_rfl) (⟨Row.cell R2.out 0, Row.cell R2.out 1, Row.cell R2.out 2, Row.cell R2.out 3, Row.cell R2.out 4⟩) (fun hHeld => ?_)
    generalize w1.drew = x1 at *
    refine wpAnyH_take (i := 0) (v := ?va0x1) rfl (by kernel_rfl) (by kernel_rfl) (by kernel_rfl) (fun _ _ _ h => h) (Or.inl ⟨by rfl, ?hy0x1⟩) (by assumption) ?rest0x1
    case hy0x1 => (intro w hSw; (try dsimp only at hSw); go_simp; try with_reducible rfl)
    (try simp only [Act.put, List.getElem_toArray, List.getElem_cons_zero, List.setIfInBounds_toArray, List.set_cons_zero, List.set_cons_succ])
    refine wpAnyH_take (i := 2) (v := ?va2x2) rfl (by kernel_rfl) (by kernel_rfl) (by kernel_rfl) (fun _ _ _ h => h) (Or.inl ⟨by rfl, ?hy2x2⟩) (by assumption) ?rest2x2
    case hy2x2 => (intro w hSw; (try dsimp only at hSw); go_simp; try with_reducible rfl)
    (try simp only [Act.put, List.getElem_toArray, List.getElem_cons_zero, List.getElem_cons_succ, List.setIfInBounds_toArray, List.set_cons_zero, List.set_cons_succ])
    refine wpAnyH_take (i := 3) (v := ?va3x3) rfl (by kernel_rfl) (by kernel_rfl) (by kernel_rfl) (fun _ _ _ h => h) (Or.inl ⟨by rfl, ?hy3x3⟩) (by assumption) ?rest3x3
    case hy3x3 => (intro w hSw; (try dsimp only at hSw); go_simp; try with_reducible rfl)
    (try simp only [Act.put, List.getElem_toArray, List.getElem_cons_zero, List.getElem_cons_succ, List.setIfInBounds_toArray, List.set_cons_zero, List.set_cons_succ])
    refine wpAnyH_ready (rs := [1]) (by kernel_rfl) (by simp) ?_
    refine AllReadyH.cons rfl (fun K hK => ?_) AllReadyH.nil
    go_simp
    refine (c_oldOnes _ _ _ _ _ os _ O2.out HOL.out).mono ?_
    rintro e x2 ⟨vo, rfl, ho, hb⟩
    obtain ⟨pO, qO, rfl⟩ := ho.ints.shape
    have V2 := Lib.hid ho.ints
    replace A2 := Lib.hid (A2.out.below hb); replace O2 := Lib.hid (O2.out.below hb); replace K2 := Lib.hid (K2.out.below hb)
    replace R2 := Lib.hid (Row.below R2.out hb); replace B2 := Lib.hid (bst B2.out hb B2.out.size)
    refine hK.out _ _ ⟨Row.cell R2.out 0, Row.cell R2.out 1, Row.cell R2.out 2, Row.cell R2.out 3, Row.cell R2.out 4⟩ (fun hHeld => ?_)
    clear hK K hb ho
    (try simp only [Act.put, List.getElem_toArray, List.getElem_cons_zero, List.getElem_cons_succ, List.setIfInBounds_toArray, List.set_cons_zero, List.set_cons_succ])
    refine wpAnyH_take (i := 4) (v := ?va4x4) rfl (by kernel_rfl) (by kernel_rfl) (by kernel_rfl) (fun _ _ _ h => h) (Or.inl ⟨by rfl, ?hy4x4⟩) (by assumption) ?rest4x4
    case hy4x4 => (intro w hSw; (try dsimp only at hSw); go_simp; try with_reducible rfl)
    (try simp only [Act.put, List.getElem_toArray, List.getElem_cons_zero, List.getElem_cons_succ, List.setIfInBounds_toArray, List.set_cons_zero, List.set_cons_succ])
    refine wpAnyH_take (i := 5) (v := ?va5x5) rfl (by kernel_rfl) (by kernel_rfl) (by kernel_rfl) (fun _ _ _ h => h) (Or.inl ⟨by rfl, ?hy5x5⟩) (by assumption) ?rest5x5
    case hy5x5 => (intro w hSw; (try dsimp only at hSw); go_simp; try with_reducible rfl)
    (try simp only [Act.put, List.getElem_toArray, List.getElem_cons_zero, List.getElem_cons_succ, List.setIfInBounds_toArray, List.set_cons_zero, List.set_cons_succ])
    refine wpAnyH_done (by kernel_rfl) ?_ _
    have HBL : Hid (bk.length ≤ 12) ∨ True := .inr trivial
    clear HBL hHeld
    have RO := Lib.hid (rise_ofB os); have RL := Lib.hid (rise_ofB h.l)
    have LO := Lib.hid (ofB_len os); have LL := Lib.hid (ofB_len h.l)
    have c0 := R2.out.cell 0
    have c1 := R2.out.cell 1
    have c2 := R2.out.cell 2
    have c3' := R2.out.cell 3
    have c4 := R2.out.cell 4
    go_wp2_with fail
    clear c0 c1 c2 c3' c4
    refine (c_liveOnes _ _ _ _ _ h.l _ A2.out.l (by rw [HNL.out]; exact HL12.out)).mono ?_
    rintro e x3 ⟨vl, rfl, ho, hb⟩
    obtain ⟨pL, qL, rfl⟩ := ho.ints.shape
    have U2 := Lib.hid ho.ints
    replace A2 := Lib.hid (A2.out.below hb); replace O2 := Lib.hid (O2.out.below hb); replace K2 := Lib.hid (K2.out.below hb); replace V2 := Lib.hid (V2.out.below hb)
    replace R2 := Lib.hid (Row.below R2.out hb); replace B2 := Lib.hid (bst B2.out hb B2.out.size)
    clear ho
    clear hb
    have c0 := R2.out.cell 0
    have c1 := R2.out.cell 1
    have c2 := R2.out.cell 2
    have c3' := R2.out.cell 3
    have c4 := R2.out.cell 4
    go_wp2_with fail
    clear c0 c1 c2 c3' c4
    refine (c_hasAll _ _ (ofB h.l) (ofB os) _ U2.out V2.out (by have := LL.out; rw [HNL.out] at this; have := HL12.out; omega) (by have := LO.out; have := HOL.out; omega) RL.out).mono ?_
    rintro e x4 ⟨rfl, hb⟩
    replace A2 := Lib.hid (A2.out.below hb); replace O2 := Lib.hid (O2.out.below hb); replace K2 := Lib.hid (K2.out.below hb); replace V2 := Lib.hid (V2.out.below hb)
    replace R2 := Lib.hid (Row.below R2.out hb); replace B2 := Lib.hid (bst B2.out hb B2.out.size)
    clear hb
    clear U2
    generalize subB (ofB h.l) (ofB os) = t1 at *
    cases t1
    · have HE : Hid (ag = false) := by unfold Hid; rw [HG3.out]; rfl
      go_wp2_with fail
      go_ret
      exact ⟨r_b HE.out.symm, B2.out⟩
    have c0 := R2.out.cell 0
    have c1 := R2.out.cell 1
    have c2 := R2.out.cell 2
    have c3' := R2.out.cell 3
    have c4 := R2.out.cell 4
    go_wp2_with fail
    clear c0 c1 c2 c3' c4
    refine (c_isInOrder _ bk _ K2.out HKB.out).mono ?_
    rintro e x5 ⟨rfl, hb⟩
    replace A2 := Lib.hid (A2.out.below hb); replace O2 := Lib.hid (O2.out.below hb); replace K2 := Lib.hid (K2.out.below hb); replace V2 := Lib.hid (V2.out.below hb)
    replace R2 := Lib.hid (Row.below R2.out hb); replace B2 := Lib.hid (bst B2.out hb B2.out.size)
    clear hb
    generalize hrb : riseB bk = t2 at *
    have HRB := Lib.hid hrb; clear hrb
    cases t2
    · have HE : Hid (ag = false) := by unfold Hid; rw [HG3.out]; rfl
      go_wp2_with fail
      go_ret
      exact ⟨r_b HE.out.symm, B2.out⟩
    have c0 := R2.out.cell 0
    have c1 := R2.out.cell 1
    have c2 := R2.out.cell 2
    have c3' := R2.out.cell 3
    have c4 := R2.out.cell 4
    go_wp2_with fail
    clear c0 c1 c2 c3' c4
    refine (c_hasAll _ _ (ofB os) bk _ V2.out K2.out (by have := LO.out; have := HOL.out; omega) HKM.out RO.out).mono ?_
    rintro e x6 ⟨rfl, hb⟩
    replace A2 := Lib.hid (A2.out.below hb); replace O2 := Lib.hid (O2.out.below hb); replace K2 := Lib.hid (K2.out.below hb); replace V2 := Lib.hid (V2.out.below hb)
    replace R2 := Lib.hid (Row.below R2.out hb); replace B2 := Lib.hid (bst B2.out hb B2.out.size)
    clear hb
    generalize hsb : subB (ofB os) bk = t3 at *
    have HSB := Lib.hid hsb; clear hsb
    cases t3
    · have HE : Hid (ag = false) := by unfold Hid; rw [HG3.out]; rfl
      go_wp2_with fail
      go_ret
      exact ⟨r_b HE.out.symm, B2.out⟩
    have c0 := R2.out.cell 0
    have c1 := R2.out.cell 1
    have c2 := R2.out.cell 2
    have c3' := R2.out.cell 3
    have c4 := R2.out.cell 4
    go_wp2_with fail
    clear c0 c1 c2 c3' c4
    refine (c_oldNaming _ _ _ _ _ h os _ A2.out G.out O2.out (by rw [HL.out]; exact G.out.ll)).mono ?_
    rintro e x7 ⟨vn, rfl, ho, hb⟩
    obtain ⟨pN, qN, rfl⟩ := ho.ints.shape
    have U2 := Lib.hid ho.ints
    replace A2 := Lib.hid (A2.out.below hb); replace O2 := Lib.hid (O2.out.below hb); replace K2 := Lib.hid (K2.out.below hb); replace V2 := Lib.hid (V2.out.below hb)
    replace R2 := Lib.hid (Row.below R2.out hb); replace B2 := Lib.hid (bst B2.out hb B2.out.size)
    clear ho
    clear hb
    have LN := Lib.hid (nmTo_len h os os.length)
    have c0 := R2.out.cell 0
    have c1 := R2.out.cell 1
    have c2 := R2.out.cell 2
    have c3' := R2.out.cell 3
    have c4 := R2.out.cell 4
    go_wp2_with fail
    clear c0 c1 c2 c3' c4
    refine (c_hasAll _ _ bk (nmL h os) _ K2.out U2.out HKM.out (by have : (nmL h os).length ≤ os.length := LN.out; have := HOL.out; omega) HRB.out).mono ?_
    rintro e x8 ⟨rfl, hb⟩
    replace A2 := Lib.hid (A2.out.below hb); replace O2 := Lib.hid (O2.out.below hb); replace K2 := Lib.hid (K2.out.below hb); replace V2 := Lib.hid (V2.out.below hb)
    replace R2 := Lib.hid (Row.below R2.out hb); replace B2 := Lib.hid (bst B2.out hb B2.out.size)
    clear hb
    generalize subB bk (nmL h os) = t4 at *
    have HE : Hid (ag = t4) := by unfold Hid; rw [HG3.out]; rfl
    go_wp2_with fail
    go_ret
    exact ⟨r_b HE.out.symm, B2.out⟩
  · have HE := Lib.hid (G2.out hl)
    have i1 : ((os.length : Int) == (h.l.length : Int)) = false := by simp; omega
    have i2 : ¬ (os.length : Int) = (h.l.length : Int) := by omega
    clear hl
    generalize os.length = no at *
    generalize h.l.length = nl at *
    go_wp2_with fail
    go_ret
    exact ⟨r_b HE.out.symm, B0.out⟩
end Go.Proofs.Ytbmfkgfmibpkjaa
namespace Go.Proofs.Ytbmfkgfmibpkjaa.Ph
/-- Rising and within the bounds. -/
def risB (zs : List Int) (lo hi : Int) : Bool := zs.all (inB lo hi) && riseB zs
theorem risB_f1 {zs : List Int} {lo hi : Int} {k : Nat} (h : k < zs.length) (q : inB lo hi (zs.getD k 0) = false) : risB zs lo hi = false := by
  have : zs.all (inB lo hi) = false := by
    rw [List.all_eq_false]
    exact ⟨_, mem_getD.2 ⟨k, h, rfl⟩, by rw [q]; decide⟩
  unfold risB; rw [this]; rfl
theorem risB_f2 {zs : List Int} {lo hi : Int} {i : Nat} (h : i + 1 < zs.length) (q : ¬ zs.getD i 0 < zs.getD (i + 1) 0) : risB zs lo hi = false := by
  unfold risB; rw [riseB_false h q]; simp
theorem risB_t {zs : List Int} {lo hi : Int} (h1 : ∀ k, k < zs.length → inB lo hi (zs.getD k 0) = true) (h2 : ∀ i, i + 1 < zs.length → zs.getD i 0 < zs.getD (i + 1) 0) : risB zs lo hi = true := by
  have : zs.all (inB lo hi) = true := by
    rw [List.all_eq_true]
    intro z hz
    obtain ⟨k, hk, rfl⟩ := mem_getD.1 hz
    exact h1 k hk
  unfold risB; rw [this, riseB_iff.2 h2]; rfl
theorem hasTo_succ {zs : List Int} {z : Int} {k : Nat} (h : k < zs.length) : (zs.take (k + 1)).contains z = ((zs.take k).contains z || decide (zs.getD k 0 = z)) := by
  have e : zs.getD k 0 = zs[k] := by simp [List.getD, List.getElem?_eq_getElem h]
  rw [List.take_succ_eq_append_getElem h, Bool.eq_iff_iff]
  simp only [List.contains_iff_mem, List.mem_append, List.mem_singleton, Bool.or_eq_true, decide_eq_true_eq, e]
  constructor
  · rintro (q | q)
    · exact .inl q
    · exact .inr q.symm
  · rintro (q | q)
    · exact .inl q
    · exact .inr q.symm
end Go.Proofs.Ytbmfkgfmibpkjaa.Ph
namespace Go.Proofs.Ytbmfkgfmibpkjaa
open Go.RowKit Ph
set_option maxHeartbeats 3200000 in
set_option maxRecDepth 100000 in
theorem s_l1Rising (v : Value) (zs : List Int) (lo hi : Int) (w : World) (hz : IntsAt w v zs) (hm : zs.length ≤ 1048576) : Calls Try.prog 108 #[v, .int .i64 lo, .int .i64 hi] w fun e w' => e = .returned (.bool (risB zs lo hi)) ∧ Below w.heap.size w w' := by
  have HZ := Lib.hid hz
  obtain ⟨va, vc, rfl⟩ := hz.shape
  have F1 := Lib.hid (fun k a b => risB_f1 (zs := zs) (lo := lo) (hi := hi) (k := k) a b)
  have F2 := Lib.hid (fun k a b => risB_f2 (zs := zs) (lo := lo) (hi := hi) (i := k) a b)
  have FT := Lib.hid (fun a b => risB_t (zs := zs) (lo := lo) (hi := hi) a b)
  clear hz
  generalize risB zs lo hi = rb at *
  generalize hl : zs.length = n at *
  have HL := Lib.hid hl; clear hl
  go_enter Try.func108, Try.ntmps108
  go_wp2_with fail
  go_loopw [11] (fun i wr => ∃ k : Nat, k ≤ n ∧ i = .int .i64 k ∧ Hid (∀ j, j < k → inB lo hi (zs.getD j 0) = true) ∧ Hid (∀ i, i + 1 < k → zs.getD i 0 < zs.getD (i + 1) 0) ∧ Hid (Below w.heap.size w wr)) (fun i _ => n - (intOf i).toNat)
  case atStart => exact ⟨0, Nat.zero_le _, rfl, fun j hj => by omega, fun i hi => by omega, Below.refl _ _⟩
  case round =>
    obtain ⟨k, hk, rfl, hin, hri, hb⟩ := hrel
    by_cases hlt : k < n
    · obtain ⟨g, off, rfl, hc⟩ := (HZ.out.below hb.out).at' (by omega)
      have q := hc k hlt
      have i1 : (k : Int) < (n : Int) := by omega
      have i2 : (0 : Int) ≤ (k : Int) := by omega
      have F1k := Lib.hid (F1.out k hlt)
      by_cases hI : lo ≤ zs.getD k 0 ∧ zs.getD k 0 ≤ hi
      · have HI := Lib.hid hI
        have HIN : Hid (∀ j, j < k + 1 → inB lo hi (zs.getD j 0) = true) := fun j hj => by
          by_cases e : j = k
          · subst e; exact inB_iff.2 hI
          · exact hin.out j (by omega)
        by_cases hk0 : k = 0
        · subst hk0
          have HRI : Hid (∀ i, i + 1 < 0 + 1 → zs.getD i 0 < zs.getD (i + 1) 0) := fun i hi => by omega
          clear hc hI
          have q0 := q
          rw [Nat.add_zero] at q0
          generalize zs.getD 0 0 = y at *
          go_wp2_with (first | (go_at_call 149; refine (s_l1In_yes _ _ _ _ HI.out.1 HI.out.2).mono ?_; rintro e w1 ⟨rfl, rfl⟩))
          go_roundw
          case rel => exact ⟨1, by omega, by go_num, HIN, HRI, hb⟩
          case measure => simp [intOf]; omega
        · obtain ⟨j, hjk⟩ : ∃ j : Nat, j + 1 = k := ⟨k - 1, by omega⟩
          have q1 := hc j (by omega)
          have i4 : (0 : Int) ≤ (j : Int) := by omega
          have i5 : (j : Int) < (n : Int) := by omega
          have i6 : IntKind.i64.wrap ((k : Int) - 1) = (j : Int) := by rw [IntWalk.i64_in _ (by omega)]; omega
          have i7 : (0 : Int) < (k : Int) := by omega
          have F2k := Lib.hid (F2.out j (by omega))
          rw [hjk] at F2k
          have HJK := Lib.hid hjk
          clear hc hjk hI
          generalize hy : zs.getD k 0 = y at *
          have HY := Lib.hid hy; clear hy
          generalize hx : zs.getD j 0 = x at *
          have HX := Lib.hid hx; clear hx
          by_cases hyx : x < y
          · have HRI : Hid (∀ i, i + 1 < k + 1 → zs.getD i 0 < zs.getD (i + 1) 0) := fun i hi => by
              by_cases e : i = j
              · subst e; rw [HX.out, HJK.out, HY.out]; exact hyx
              · exact hri.out i (by have := HJK.out; omega)
            go_wp2_with (first | (go_at_call 149; refine (s_l1In_yes _ _ _ _ HI.out.1 HI.out.2).mono ?_; rintro e w1 ⟨rfl, rfl⟩))
            go_roundw
            case rel => exact ⟨k + 1, by omega, by go_num, HIN, HRI, hb⟩
            case measure => simp [intOf]; omega
          · have HE := Lib.hid (F2k.out (by omega))
            go_wp2_with (first | (go_at_call 149; refine (s_l1In_yes _ _ _ _ HI.out.1 HI.out.2).mono ?_; rintro e w1 ⟨rfl, rfl⟩))
            go_ret
            exact ⟨r_b HE.out.symm, hb.out⟩
      · have HE := Lib.hid (F1k.out (inB_no hI))
        have HN : Hid (zs.getD k 0 < lo ∨ hi < zs.getD k 0) := by unfold Hid; omega
        clear hc hI
        generalize zs.getD k 0 = y at *
        go_wp2_with (first | (go_at_call 149; refine (s_l1In_no _ _ _ _ HN.out).mono ?_; rintro e w1 ⟨rfl, rfl⟩))
        go_ret
        exact ⟨r_b HE.out.symm, hb.out⟩
    · have hkn : k = n := by omega
      have HE : Hid (rb = true) := FT.out (fun j hj => hin.out j (by omega)) (fun i hi => hri.out i (by omega))
      clear hkn
      go_wp2_with fail
      go_ret
      exact ⟨r_b HE.out.symm, hb.out⟩
set_option maxHeartbeats 1600000 in
theorem s_l1Has (v : Value) (zs : List Int) (z : Int) (w : World) (hz : IntsAt w v zs) (hm : zs.length ≤ 9223372036854775806) : Calls Try.prog 110 #[v, .int .i64 z] w fun e w' => e = .returned (.bool (zs.contains z)) ∧ Below w.heap.size w w' := by
  have HZ := Lib.hid hz
  obtain ⟨va, vc, rfl⟩ := hz.shape
  have HY := Lib.hid (fun (k : Nat) (h : k < zs.length) (e : zs.getD k 0 = z) => (show zs.contains z = true from by rw [List.contains_iff_mem, mem_getD]; exact ⟨k, h, e⟩))
  have HT := Lib.hid (fun (k : Nat) (h : k < zs.length) => hasTo_succ (z := z) h)
  have HA : Hid ((zs.take zs.length).contains z = zs.contains z) := by unfold Hid; rw [List.take_length]
  clear hz
  generalize zs.contains z = rb at *
  generalize hl : zs.length = n at *
  have HL := Lib.hid hl; clear hl
  go_enter Try.func110, Try.ntmps110
  go_wp2_with fail
  go_loopw [9] (fun i wr => ∃ k : Nat, k ≤ n ∧ i = .int .i64 k ∧ Hid ((zs.take k).contains z = false) ∧ Hid (Below w.heap.size w wr)) (fun i _ => n - (intOf i).toNat)
  case atStart => exact ⟨0, Nat.zero_le _, rfl, rfl, Below.refl _ _⟩
  case round =>
    obtain ⟨k, hk, rfl, hno, hb⟩ := hrel
    by_cases hlt : k < n
    · obtain ⟨g, off, rfl, hc⟩ := (HZ.out.below hb.out).at' (by omega)
      have q := hc k hlt
      have i1 : (k : Int) < (n : Int) := by omega
      have i2 : (0 : Int) ≤ (k : Int) := by omega
      have HYk := Lib.hid (HY.out k hlt)
      have HTk := Lib.hid (HT.out k hlt)
      clear hc
      generalize zs.getD k 0 = y at *
      by_cases hyz : y = z
      · have HE := Lib.hid (HYk.out hyz)
        have h1 : (y == z) = true := by simpa using hyz
        clear hyz
        go_wp2_with fail
        go_ret
        exact ⟨r_b HE.out.symm, hb.out⟩
      · have HE : Hid ((zs.take (k + 1)).contains z = false) := by unfold Hid; rw [HTk.out, hno.out, decide_eq_false hyz]; rfl
        have h1 : (y == z) = false := by simpa using hyz
        clear hyz
        go_wp2_with fail
        go_roundw
        case rel => exact ⟨k + 1, by omega, by go_num, HE, hb⟩
        case measure => simp [intOf]; omega
    · have hkn : k = n := by omega
      subst hkn
      have HE : Hid (rb = false) := by unfold Hid; rw [← HA.out]; exact hno.out
      go_wp2_with fail
      go_ret
      exact ⟨r_b HE.out.symm, hb.out⟩
end Go.Proofs.Ytbmfkgfmibpkjaa
namespace Go.Proofs.Ytbmfkgfmibpkjaa.Ph
/-- The reference's test of one field. -/
theorem yB_spec {h : H} {os : List Bool} (g : Good h) {i : Nat} {z : Int} (hz : z ∈ h.f.getD i []) : yB h os z = (decide (0 ≤ z) && !os.getD z.toNat false) := by
  unfold yB
  rcases g.field hz with rfl | ⟨h1, _, h2⟩
  · simp [liveB]
  · rw [liveB_iff.2 ⟨h1, h2⟩, decide_eq_true h1]
end Go.Proofs.Ytbmfkgfmibpkjaa.Ph
namespace Go.Proofs.Ytbmfkgfmibpkjaa
open Go.RowKit Ph
set_option maxHeartbeats 6400000 in
set_option maxRecDepth 100000 in
theorem s_l9Naming (a b c o : Value) (h : H) (os : List Bool) (w : World) (hA : HeapAt w a b c h) (hG : Ph.Good h) (ho : BoolsAt w o os) (hn : os.length = h.f.length) : Calls Try.prog 109 #[hv a b c, o] w fun e w' => ∃ v', e = .returned v' ∧ Own w' w.heap.size v' (nmL h os) ∧ Below w.heap.size w w' := by
  obtain ⟨i0, hi, hz0, hz1, hz2⟩ := info_parts info_int
  have b0 := below1 w (.cells (c3 a b c) 32)
  have B0 := Lib.hid b0
  have R0 := Lib.hid (show RowH _ _ a b c from Row.new w 32 (c3 a b c))
  have HF := Lib.hid hA.f
  have HO := Lib.hid ho
  have HN12 : Hid (h.f.length ≤ 12) := hG.n
  have HFL : Hid (∀ i, i < h.f.length → (h.f.getD i []).length ≤ 3) := fun i hi => (hG.row i hi).1
  have HFI : Hid (∀ i, ∀ z ∈ h.f.getD i [], z = -1 ∨ (0 ≤ z ∧ z < h.f.length)) := fun i z hz => (hG.field hz).imp id (fun q => ⟨q.1, q.2.1⟩)
  have HYB : Hid (∀ i, ∀ z ∈ h.f.getD i [], yB h os z = (decide (0 ≤ z) && !os.getD z.toNat false)) := fun i z hz => yB_spec hG hz
  have HR : Hid (nmTo h os h.f.length = nmL h os) := by unfold Hid nmL; rw [hn]
  have HNO := Lib.hid hn
  obtain ⟨fa, fc, rfl⟩ := hA.f.shape
  obtain ⟨oa, oc, rfl⟩ := ho.shape
  rw [hn] at *
  clear hA hG ho hn b0
  generalize nmL h os = res at *
  generalize hln : h.f.length = n at *
  have HLN := Lib.hid hln; clear hln
  have hn12 : n ≤ 12 := HN12.out
  have p0 := R0.out.c0
  go_enter Try.func109, Try.ntmps109
  go_wp2_with fail
  clear p0
  go_loopw [5, 14] (fun t i wr => ∃ k : Nat, k ≤ n ∧ i = .int .i64 k ∧ Hid (Own wr w.heap.size t (nmTo h os k)) ∧ Hid (Below w.heap.size w wr)) (fun _ i _ => n - (intOf i).toNat)
  case atStart => exact ⟨0, Nat.zero_le _, rfl, Own.nil _ _, B0⟩
  case round =>
    obtain ⟨k, hk, rfl, ht, hb⟩ := hrel
    by_cases hlt : k < n
    · obtain ⟨fb, fo, rfl, hcf⟩ := HF.out.at' (by omega)
      obtain ⟨u, quf, huf⟩ := hcf k hlt
      have q := cellBelow hb.out (Nat.le_refl _) quf
      have HU := Lib.hid huf
      have HUL := Lib.hid (HFL.out k hlt)
      have HUI := Lib.hid (HFI.out k)
      have HUY := Lib.hid (HYB.out k)
      have HNM : Hid (nmB h os k = (h.f.getD k []).any (yB h os)) := rfl
      have HYS := Lib.hid (nmTo_yes (h := h) (os := os) (n := k))
      have HNS := Lib.hid (nmTo_no (h := h) (os := os) (n := k))
      have HTL := Lib.hid (nmTo_len h os k)
      obtain ⟨ua, uc, rfl⟩ := huf.shape
      obtain ⟨ob, oo, rfl, hco⟩ := HO.out.at' (by omega)
      have HCO := Lib.hid hco
      have i1 : (k : Int) < (n : Int) := by omega
      have i2 : (0 : Int) ≤ (k : Int) := by omega
      clear hcf quf huf hco
      generalize hfs : h.f.getD k [] = fs at *
      have HFS := Lib.hid hfs; clear hfs
      generalize hul : fs.length = ul at *
      have HULL := Lib.hid hul; clear hul
      have hul3 : ul ≤ 3 := HUL.out
      go_wp2_with fail
      go_loopw [8, 21] (fun y i wq => ∃ j : Nat, j ≤ ul ∧ i = .int .i64 j ∧ y = .bool ((fs.take j).any (yB h os)) ∧ Hid (Below wr.heap.size wr wq)) (fun _ i _ => ul - (intOf i).toNat)
      case atStart => exact ⟨0, Nat.zero_le _, rfl, rfl, Below.refl _ _⟩
      case round =>
        obtain ⟨j, hj, rfl, rfl, hbq⟩ := hrel
        have HBB := Lib.hid (bst hb.out hbq.out hb.out.size)
        by_cases hjl : j < ul
        · obtain ⟨ub, uo, rfl, hcu⟩ := HU.out.at' (by omega)
          have q1 := cellBelow HBB.out (Nat.le_refl _) (hcu j hjl)
          have hjf : j < fs.length := by rw [HULL.out]; exact hjl
          have HT := Lib.hid (any_take_succ (p := yB h os) hjf)
          have HM : fs.getD j 0 ∈ fs := getD_memI hjf
          have HY := Lib.hid (HUY.out _ HM)
          have hin := HUI.out _ HM
          have j1 : (j : Int) < (ul : Int) := by omega
          have j2 : (0 : Int) ≤ (j : Int) := by omega
          clear hcu hjf HM
          generalize fs.getD j 0 = z at *
          generalize (fs.take j).any (yB h os) = acc at *
          cases acc
          · by_cases z1 : z = -1
            · subst z1
              have HE : Hid ((fs.take (j + 1)).any (yB h os) = false) := by unfold Hid; rw [HT.out, HY.out]; rfl
              clear hin
              go_wp2_with fail
              go_roundw
              case rel => exact ⟨j + 1, by omega, by go_num, by rw [HE.out], hbq⟩
              case measure => simp [intOf]; omega
            · obtain ⟨t, rfl⟩ : ∃ t : Nat, z = t := ⟨z.toNat, by rcases hin with h | h <;> omega⟩
              have htn : t < n := by rcases hin with h | h <;> omega
              have q2 := cellBelow HBB.out (Nat.le_refl _) (HCO.out t htn)
              have t1 : (t : Int) < (n : Int) := by omega
              have t0 : (0 : Int) ≤ (t : Int) := by omega
              have HY2 : Hid (yB h os (t : Int) = !os.getD t false) := by unfold Hid; rw [HY.out, decide_eq_true t0]; simp
              clear hin z1 HY
              generalize os.getD t false = x at *
              have HE : Hid ((fs.take (j + 1)).any (yB h os) = !x) := by unfold Hid; rw [HT.out, HY2.out]; simp
              cases x
              all_goals
                go_wp2_with fail
                go_roundw
                case rel => exact ⟨j + 1, by omega, by go_num, by rw [HE.out]; rfl, hbq⟩
                case measure => simp [intOf]; omega
          · have HE : Hid ((fs.take (j + 1)).any (yB h os) = true) := by unfold Hid; rw [HT.out]; rfl
            clear hin
            go_wp2_with fail
            go_roundw
            case rel => exact ⟨j + 1, by omega, by go_num, by rw [HE.out], hbq⟩
            case measure => simp [intOf]; omega
        · have HE : Hid ((fs.take j).any (yB h os) = nmB h os k) := by
            unfold Hid
            rw [HNM.out, List.take_of_length_le (by rw [HULL.out]; omega)]
          rw [HE.out]
          have q3 := cellBelow HBB.out (Nat.le_refl _) (HCO.out k hlt)
          have T1 := Lib.hid (ht.out.below hbq.out)
          clear HE
          generalize nmB h os k = nb at *
          cases nb
          · have HE := Lib.hid (HNS.out (.inr rfl))
            clear q3
            go_wp2_with fail
            go_roundw
            case rel => exact ⟨k + 1, by omega, by go_num, by rw [HE.out]; exact T1, HBB⟩
            case measure => simp [intOf]; omega
          · generalize os.getD k false = x at *
            cases x
            · have HE := Lib.hid (HNS.out (.inl rfl))
              go_wp2_with fail
              go_roundw
              case rel => exact ⟨k + 1, by omega, by go_num, by rw [HE.out]; exact T1, HBB⟩
              case measure => simp [intOf]; omega
            · have HE := Lib.hid (HYS.out rfl rfl)
              have HS := Lib.hid (src_int wr (k : Int))
              have ba := below1 wr (.cells #[.int .i64 (k : Int)] 3)
              have HO1 := Lib.hid (T1.out.below ba)
              have HB1 := Lib.hid (bst HBB.out ba HBB.out.size)
              clear ba
              generalize hfl : nmTo h os k = fl at *
              clear hfl
              go_wp2_with (at_builtin; refine wl_appOwn _ rfl _ _ 24 rfl w.heap.size 3 i0 (.int .i64 0) 8 Try.underlying24 hi hz0 hz1 hz2 rfl u5 _ _ rfl HO1.out _ _ rfl HS.out (by have := HTL.out; simp; unfold maxLen; omega) (by have := HTL.out; simp; omega) HB1.out.size ?_; intro v4 x4 ho4 hg4 hbl; have O4 : Hid (Own x4 w.heap.size v4 (fl ++ [(k : Int)])) := by { unfold Hid Own; rw [List.map_append, List.length_append]; exact ho4 }; have B4 := Lib.hid (HB1.out.grown hg4 HB1.out.size (fun g' hg' => (owns_lt HO1.out hg').1)); clear ho4 hg4 hbl)
              go_roundw
              case rel => exact ⟨k + 1, by omega, by go_num, by rw [HE.out]; exact O4, B4⟩
              case measure => simp [intOf]; omega
    · obtain rfl : k = n := by omega
      go_wp2_with fail
      go_ret
      exact ⟨_, rfl, by rw [← HR.out]; exact ht.out, hb.out⟩
end Go.Proofs.Ytbmfkgfmibpkjaa
namespace Go.Proofs.Ytbmfkgfmibpkjaa.Ph
def nmR (h : H) (os : List Bool) (bk : List Int) : List Int := if agesB h os bk = true then nmL h os else []
def yR (h : H) (os : List Bool) (bk : List Int) : Int := if agesB h os bk = true then youngs h os else 0
theorem nmR_len (h : H) (os : List Bool) (bk : List Int) : (nmR h os bk).length ≤ 1000 := by
  unfold nmR
  split
  · next q => have := nmTo_len h os os.length; have := (agesB_iff.1 q).olN; show (nmTo h os os.length).length ≤ 1000; omega
  · simp
def newAH (h : H) : H := if good h = true then h else ⟨[], [], []⟩
def newAO (h : H) : List Bool := if good h = true then List.replicate h.f.length false else []
theorem newA_wt (h : H) : wtH (newAH h) + (newAO h).length + ([] : List Int).length ≤ 2000 := by
  unfold newAH newAO
  cases q : good h with
  | false => simp; decide
  | true => have g := good_iff.1 q; have := (good_wt g).1; have := g.n; simp; omega
end Go.Proofs.Ytbmfkgfmibpkjaa.Ph
namespace Go.Proofs.Ytbmfkgfmibpkjaa
open Go.RowKit Ph
set_option maxHeartbeats 3200000 in
set_option maxRecDepth 100000 in
theorem c_OldNaming (a b c o k : Value) (h : H) (os : List Bool) (bk : List Int) (w : World) (hA : HeapAt w a b c h) (hO : BoolsAt w o os) (hK : IntsAt w k bk) (hkm : bk.length ≤ 1048576) : Calls Try.prog 60 #[av a b c o k] w (EndI (nmR h os bk) (agesB h os bk) w) := by
  have b0 := below1 w (.cells (a5 a b c o k) 59)
  have A0 := Lib.hid (hA.below b0); have O0 := Lib.hid (hO.below b0); have K0 := Lib.hid (hK.below b0)
  have B0 := Lib.hid b0
  have R0 := Lib.hid (Row.new w 59 (a5 a b c o k))
  have HC := Lib.hid (c_GoodAges a b c o k h os bk _ A0.out O0.out K0.out hkm)
  have GG := Lib.hid (agesB_iff (h := h) (os := os) (bk := bk)).1
  have HR : Hid (nmR h os bk = if agesB h os bk = true then nmL h os else []) := rfl
  clear hA hO hK b0 hkm
  generalize nmR h os bk = res at *
  generalize hag : agesB h os bk = ag at *
  clear hag
  go_enter Try.func60, Try.ntmps60
  go_wp2_with fail
  refine HC.out.mono ?_
  rintro e w1 ⟨rfl, hb⟩
  replace A0 := Lib.hid (A0.out.below hb); replace O0 := Lib.hid (O0.out.below hb)
  replace R0 := Lib.hid (Row.below R0.out hb); replace B0 := Lib.hid (bst B0.out hb B0.out.size)
  clear hb HC
  cases ag
  · have HE : Hid (res = []) := by unfold Hid; rw [HR.out]; rfl
    go_wp2_with fail
    go_ret2
    exact endI_no B0.out HE.out rfl
  have Q := Lib.hid (GG.out rfl)
  have HE : Hid (res = nmL h os) := by unfold Hid; rw [HR.out]; rfl
  have c0 := R0.out.cell 0
  have c1 := R0.out.cell 1
  have c2 := R0.out.cell 2
  have c3' := R0.out.cell 3
  have c4 := R0.out.cell 4
  go_wp2_with fail
  refine (c_oldNaming _ _ _ _ _ h os _ A0.out Q.out.g O0.out Q.out.ol).mono ?_
  rintro e w2 ⟨v, rfl, ho, hb⟩
  have O2 := Lib.hid (Own.mono ho B0.out.size); have B2 := Lib.hid (bst B0.out hb B0.out.size)
  clear ho hb c0 c1 c2 c3' c4
  go_wp2_with fail
  go_ret2
  exact endI_yes B2.out O2.out (Nat.le_refl _) HE.out rfl
set_option maxHeartbeats 3200000 in
set_option maxRecDepth 100000 in
theorem c_YoungIn (a b c o k : Value) (h : H) (os : List Bool) (bk : List Int) (w : World) (hA : HeapAt w a b c h) (hO : BoolsAt w o os) (hK : IntsAt w k bk) (hkm : bk.length ≤ 1048576) : Calls Try.prog 62 #[av a b c o k] w fun e w' => e = .returned (.tuple #[.int .i64 (yR h os bk), .bool (agesB h os bk)]) ∧ Below w.heap.size w w' := by
  have b0 := below1 w (.cells (a5 a b c o k) 59)
  have A0 := Lib.hid (hA.below b0); have O0 := Lib.hid (hO.below b0); have K0 := Lib.hid (hK.below b0)
  have B0 := Lib.hid b0
  have R0 := Lib.hid (Row.new w 59 (a5 a b c o k))
  have HC := Lib.hid (c_GoodAges a b c o k h os bk _ A0.out O0.out K0.out hkm)
  have GG := Lib.hid (agesB_iff (h := h) (os := os) (bk := bk)).1
  have HR : Hid (yR h os bk = if agesB h os bk = true then youngs h os else 0) := rfl
  clear hA hO hK b0 hkm
  generalize yR h os bk = res at *
  generalize hag : agesB h os bk = ag at *
  clear hag
  go_enter Try.func62, Try.ntmps62
  go_wp2_with fail
  refine HC.out.mono ?_
  rintro e w1 ⟨rfl, hb⟩
  replace A0 := Lib.hid (A0.out.below hb); replace O0 := Lib.hid (O0.out.below hb)
  replace R0 := Lib.hid (Row.below R0.out hb); replace B0 := Lib.hid (bst B0.out hb B0.out.size)
  clear hb HC
  cases ag
  · have HE : Hid (res = 0) := by unfold Hid; rw [HR.out]; rfl
    go_wp2_with fail
    go_ret2
    exact ⟨by rw [HE.out]; rfl, B0.out⟩
  have Q := Lib.hid (GG.out rfl)
  have HE : Hid (res = ((ofB h.l).length : Int) - ((ofB os).length : Int)) := by unfold Hid; rw [HR.out]; rfl
  have HOL : Hid (os.length ≤ 12) := Q.out.olN
  have HLL : Hid (h.l.length ≤ 12) := by unfold Hid; rw [Q.out.g.ll]; exact Q.out.g.n
  have L1 := Lib.hid (ofB_len h.l); have L2 := Lib.hid (ofB_len os)
  have bd := below_drew (Below.refl w1.heap.size w1)
  have A1 := Lib.hid (A0.out.below bd); have O1 := Lib.hid (O0.out.below bd)
  have R1 := Lib.hid (Row.below R0.out bd); have B1 := Lib.hid (bst B0.out bd B0.out.size)
  clear bd A0 O0 R0 B0 Q GG
  generalize hn1 : (ofB h.l).length = n1 at *
  have HN1 := Lib.hid hn1; clear hn1
  generalize hn2 : (ofB os).length = n2 at *
  have HN2 := Lib.hid hn2; clear hn2
  have hb1 : n1 ≤ 12 := by have := L1.out; have := HLL.out; omega
  have hb2 : n2 ≤ 12 := by have := L2.out; have := HOL.out; omega
  have hsub : IntKind.i64.wrap ((n1 : Int) - (n2 : Int)) = (n1 : Int) - (n2 : Int) := IntWalk.i64_in _ (by omega)
  go_wp2_with fail
  refine wp_region_held_drew (S := (fun w' => w'.cell? ⟨w.heap.size, 0, none⟩ = some a ∧ w'.cell? ⟨w.heap.size, 1, none⟩ = some b ∧ w'.cell? ⟨w.heap.size, 2, none⟩ = some c ∧ w'.cell? ⟨w.heap.size, 3, none⟩ = some o ∧ w'.cell? ⟨w.heap.size, 4, none⟩ = some k)) (by kernel_rfl) (⟨R1.out.cell 0, R1.out.cell 1, R1.out.cell 2, R1.out.cell 3, R1.out.cell 4⟩) (fun hHeld => ?_)
  generalize w1.drew = x1 at *
  refine wpAnyH_take (i := 0) (v := ?va0x1) rfl (by kernel_rfl) (by kernel_rfl) (by kernel_rfl) (fun _ _ _ h => h) (Or.inl ⟨by rfl, ?hy0x1⟩) (by assumption) ?rest0x1
  case hy0x1 => (intro w hSw; (try dsimp only at hSw); go_simp; try with_reducible rfl)
  (try simp only [Act.put, List.getElem_toArray, List.getElem_cons_zero, List.setIfInBounds_toArray, List.set_cons_zero, List.set_cons_succ])
  refine wpAnyH_take (i := 3) (v := ?va3x2) rfl (by kernel_rfl) (by kernel_rfl) (by kernel_rfl) (fun _ _ _ h => h) (Or.inl ⟨by rfl, ?hy3x2⟩) (by assumption) ?rest3x2
  case hy3x2 => (intro w hSw; (try dsimp only at hSw); go_simp; try with_reducible rfl)
  (try simp only [Act.put, List.getElem_toArray, List.getElem_cons_zero, List.getElem_cons_succ, List.setIfInBounds_toArray, List.set_cons_zero, List.set_cons_succ])
  refine wpAnyH_ready (rs := [1]) (by kernel_rfl) (by simp) ?_
  refine AllReadyH.cons rfl (fun K hK => ?_) AllReadyH.nil
  go_simp
  refine (c_liveOnes _ _ _ _ _ h.l _ A1.out.l HLL.out).mono ?_
  rintro e x2 ⟨vl, rfl, ho, hb⟩
  obtain ⟨pL, qL, rfl⟩ := ho.ints.shape
  simp only [HN1.out]
  replace A1 := Lib.hid (A1.out.below hb); replace O1 := Lib.hid (O1.out.below hb)
  replace R1 := Lib.hid (Row.below R1.out hb); replace B1 := Lib.hid (bst B1.out hb B1.out.size)
  clear ho hb
  refine hK.out _ _ ⟨Row.cell R1.out 0, Row.cell R1.out 1, Row.cell R1.out 2, Row.cell R1.out 3, Row.cell R1.out 4⟩ (fun hHeld => ?_)
  clear hK K
  (try simp only [Act.put, List.getElem_toArray, List.getElem_cons_zero, List.getElem_cons_succ, List.setIfInBounds_toArray, List.set_cons_zero, List.set_cons_succ])
  refine wpAnyH_take (i := 2) (v := ?va2x3) rfl (by kernel_rfl) (by kernel_rfl) (by kernel_rfl) (fun _ _ _ h => h) (Or.inl ⟨by rfl, ?hy2x3⟩) (by assumption) ?rest2x3
  case hy2x3 => (intro w hSw; (try dsimp only at hSw); go_simp; try with_reducible rfl)
  (try simp only [Act.put, List.getElem_toArray, List.getElem_cons_zero, List.getElem_cons_succ, List.setIfInBounds_toArray, List.set_cons_zero, List.set_cons_succ])
  refine wpAnyH_ready (rs := [4]) (by kernel_rfl) (by simp) ?_
  refine AllReadyH.cons rfl (fun K hK => ?_) AllReadyH.nil
  go_simp
  refine (c_oldOnes _ _ _ _ _ os _ O1.out HOL.out).mono ?_
  rintro e x3 ⟨vo, rfl, ho, hb⟩
  obtain ⟨pO, qO, rfl⟩ := ho.ints.shape
  simp only [HN2.out]
  replace A1 := Lib.hid (A1.out.below hb); replace O1 := Lib.hid (O1.out.below hb)
  replace R1 := Lib.hid (Row.below R1.out hb); replace B1 := Lib.hid (bst B1.out hb B1.out.size)
  clear ho hb
  refine hK.out _ _ ⟨Row.cell R1.out 0, Row.cell R1.out 1, Row.cell R1.out 2, Row.cell R1.out 3, Row.cell R1.out 4⟩ (fun hHeld => ?_)
  clear hK K
  (try simp only [Act.put, List.getElem_toArray, List.getElem_cons_zero, List.getElem_cons_succ, List.setIfInBounds_toArray, List.set_cons_zero, List.set_cons_succ])
  refine wpAnyH_take (i := 5) (v := ?va5x4) rfl (by kernel_rfl) (by kernel_rfl) (by kernel_rfl) (fun _ _ _ h => h) (Or.inl ⟨by rfl, ?hy5x4⟩) (by assumption) ?rest5x4
  case hy5x4 => (intro w hSw; (try dsimp only at hSw); go_simp; try with_reducible rfl)
  (try simp only [Act.put, List.getElem_toArray, List.getElem_cons_zero, List.getElem_cons_succ, List.setIfInBounds_toArray, List.set_cons_zero, List.set_cons_succ])
  refine wpAnyH_take (i := 6) (v := ?va6x5) rfl (by kernel_rfl) (by kernel_rfl) (by kernel_rfl) (fun _ _ _ h => h) (Or.inl ⟨by rfl, ?hy6x5⟩) (by assumption) ?rest6x5
  case hy6x5 => (intro w hSw; (try dsimp only at hSw); go_simp; try with_reducible rfl)
  (try simp only [Act.put, List.getElem_toArray, List.getElem_cons_zero, List.getElem_cons_succ, List.setIfInBounds_toArray, List.set_cons_zero, List.set_cons_succ])
  refine wpAnyH_take (i := 7) (v := ?va7x6) rfl (by kernel_rfl) (by kernel_rfl) (by kernel_rfl) (fun _ _ _ h => h) (Or.inl ⟨by rfl, ?hy7x6⟩) (by assumption) ?rest7x6
  case hy7x6 => (intro w hSw; (try dsimp only at hSw); go_simp; try with_reducible rfl)
  (try simp only [Act.put, List.getElem_toArray, List.getElem_cons_zero, List.getElem_cons_succ, List.setIfInBounds_toArray, List.set_cons_zero, List.set_cons_succ])
  refine wpAnyH_take (i := 8) (v := ?va8x7) rfl (by kernel_rfl) (by kernel_rfl) (by kernel_rfl) (fun _ _ _ h => h) (Or.inl ⟨by rfl, ?hy8x7⟩) (by assumption) ?rest8x7
  case hy8x7 => (intro w hSw; (try dsimp only at hSw); go_simp; try with_reducible rfl)
  (try simp only [Act.put, List.getElem_toArray, List.getElem_cons_zero, List.getElem_cons_succ, List.setIfInBounds_toArray, List.set_cons_zero, List.set_cons_succ])
  refine wpAnyH_done (by kernel_rfl) ?_ _
  go_wp2_with fail
  go_ret2
  exact ⟨by rw [HE.out]; rfl, B1.out⟩
end Go.Proofs.Ytbmfkgfmibpkjaa
namespace Go.Proofs.Ytbmfkgfmibpkjaa.Ph
/-- The reference's words for what is valid. -/
structure AV (h : H) (os : List Bool) (bk : List Int) : Prop where
  g : good h = true
  ol : os.length = h.f.length
  rs : risB bk 0 ((os.length : Int) - 1) = true
  lv : ∀ k, k < os.length → (os.getD k false && !h.l.getD k false) = false
  bo : ∀ k, k < bk.length → os.getD (bk.getD k 0).toNat false = true
  nm : ∀ k, k < (nmL h os).length → bk.contains ((nmL h os).getD k 0) = true
theorem risB_iff {zs : List Int} {lo hi : Int} : risB zs lo hi = true ↔ (∀ z ∈ zs, lo ≤ z ∧ z ≤ hi) ∧ riseB zs = true := by
  unfold risB
  rw [Bool.and_eq_true, List.all_eq_true]
  exact ⟨fun q => ⟨fun z hz => inB_iff.1 (q.1 z hz), q.2⟩, fun q => ⟨fun z hz => inB_iff.2 (q.1 z hz), q.2⟩⟩
theorem AV.iff {h : H} {os : List Bool} {bk : List Int} : agesB h os bk = true ↔ AV h os bk := by
  rw [agesB_iff]
  constructor
  · intro q
    refine ⟨good_iff.2 q.g, q.ol, risB_iff.2 ⟨fun z hz => ?_, q.rs⟩, fun k _ => ?_, fun k hk => (q.bo _ (mem_getD.2 ⟨k, hk, rfl⟩)).2, fun k hk => ?_⟩
    · obtain ⟨a, b⟩ := q.bo z hz
      have := getD_lt b
      omega
    · cases e : os.getD k false
      · rfl
      · rw [q.lv k e]; rfl
    · rw [List.contains_iff_mem]; exact q.nm _ (mem_getD.2 ⟨k, hk, rfl⟩)
  · intro q
    obtain ⟨r1, r2⟩ := risB_iff.1 q.rs
    refine ⟨good_iff.1 q.g, q.ol, fun k e => ?_, r2, fun z hz => ?_, fun z hz => ?_⟩
    · have hk := getD_lt e
      have := q.lv k hk
      rw [e] at this
      cases e2 : h.l.getD k false
      · rw [e2] at this; cases this
      · rfl
    · obtain ⟨k, hk, rfl⟩ := mem_getD.1 hz
      exact ⟨(r1 _ hz).1, q.bo k hk⟩
    · obtain ⟨k, hk, rfl⟩ := mem_getD.1 hz
      rw [← List.contains_iff_mem]; exact q.nm k hk
theorem agesB_no {h : H} {os : List Bool} {bk : List Int} (q : ¬ AV h os bk) : agesB h os bk = false := by
  cases e : agesB h os bk
  · rfl
  · exact absurd (AV.iff.1 e) q
end Go.Proofs.Ytbmfkgfmibpkjaa.Ph
namespace Go.Proofs.Ytbmfkgfmibpkjaa
open Go.RowKit Ph
set_option maxHeartbeats 6400000 in
set_option maxRecDepth 100000 in
theorem s_GoodAges (a b c o k : Value) (h : H) (os : List Bool) (bk : List Int) (w : World) (hA : HeapAt w a b c h) (hO : BoolsAt w o os) (hK : IntsAt w k bk) (hkm : bk.length ≤ 1048576) : Calls Try.prog 44 #[av a b c o k] w fun e w' => e = .returned (.bool (agesB h os bk)) ∧ Below w.heap.size w w' := by
  have b0 := below1 w (.cells (a5 a b c o k) 59)
  have A0 := Lib.hid (hA.below b0); have O0 := Lib.hid (hO.below b0); have K0 := Lib.hid (hK.below b0)
  have B0 := Lib.hid b0
  have R0 := Lib.hid (Row.new w 59 (a5 a b c o k))
  have HC := Lib.hid (s_GoodHeap a b c h _ A0.out)
  have HNO := Lib.hid (fun q => agesB_no (h := h) (os := os) (bk := bk) q)
  have HYES := Lib.hid (fun q => (AV.iff (h := h) (os := os) (bk := bk)).2 q)
  obtain ⟨fa, fc, rfl⟩ := hA.f.shape
  obtain ⟨la, lc, rfl⟩ := hA.l.shape
  obtain ⟨oa, oc, rfl⟩ := hO.shape
  obtain ⟨ka, kc, rfl⟩ := hK.shape
  have HKM := Lib.hid hkm
  clear hA hO hK b0 hkm
  generalize hag : agesB h os bk = ag at *
  clear hag
  generalize hgd : good h = gd at *
  have HGD := Lib.hid hgd; clear hgd
  go_enter Try.func44, Try.ntmps44
  go_wp2_with fail
  refine HC.out.mono ?_
  rintro e w1 ⟨rfl, hb⟩
  replace A0 := Lib.hid (A0.out.below hb); replace O0 := Lib.hid (O0.out.below hb); replace K0 := Lib.hid (K0.out.below hb)
  replace R0 := Lib.hid (Row.below R0.out hb); replace B0 := Lib.hid (bst B0.out hb B0.out.size)
  clear hb HC
  cases gd
  · have HE : Hid (ag = false) := HNO.out (fun q => by rw [q.g] at HGD; cases HGD.out)
    go_wp2_with fail
    go_ret
    exact ⟨r_b HE.out.symm, B0.out⟩
  have G : Hid (Ph.Good h) := good_iff.1 HGD.out
  have c0 := R0.out.cell 0
  have c1 := R0.out.cell 1
  have c2 := R0.out.cell 2
  have c3' := R0.out.cell 3
  have c4 := R0.out.cell 4
  by_cases hl : os.length = h.f.length
  · have HL := Lib.hid hl
    have HL12 : Hid (h.f.length ≤ 12) := G.out.n
    have HLL : Hid (h.l.length = h.f.length) := G.out.ll
    have hl2 := hl.symm
    have hll2 := HLL.out
    clear hl
    generalize hno : os.length = no at *
    generalize hnl : h.l.length = nl at *
    generalize hnf : h.f.length = nf at *
    subst hl2
    subst hll2
    have HNF := Lib.hid hnf; clear hnf
    have HNS := Lib.hid hno; clear hno
    have HNL := Lib.hid hnl; clear hnl
    generalize hnk : bk.length = nk at *
    have HNK := Lib.hid hnk; clear hnk
    have i1 : ((nl : Int) == (nl : Int)) = true := by simp
    have hn12 : nl ≤ 12 := HL12.out
    have hwr : IntKind.i64.wrap ((nl : Int) - 1) = (nl : Int) - 1 := IntWalk.i64_in _ (by omega)
    go_wp2_with fail
    refine (s_l1Rising _ bk 0 ((nl : Int) - 1) _ K0.out (by rw [HNK.out]; exact HKM.out)).mono ?_
    rintro e w2 ⟨rfl, hb⟩
    replace A0 := Lib.hid (A0.out.below hb); replace O0 := Lib.hid (O0.out.below hb); replace K0 := Lib.hid (K0.out.below hb)
    replace R0 := Lib.hid (Row.below R0.out hb); replace B0 := Lib.hid (bst B0.out hb B0.out.size)
    clear hb c0 c1 c2 c3' c4
    generalize hrs : risB bk 0 ((nl : Int) - 1) = rs at *
    have HRS := Lib.hid hrs; clear hrs
    cases rs
    · have HE : Hid (ag = false) := HNO.out (fun q => by have := q.rs; rw [HNS.out, HRS.out] at this; cases this)
      go_wp2_with fail
      go_ret
      exact ⟨r_b HE.out.symm, B0.out⟩
    have HBI : Hid (∀ z ∈ bk, 0 ≤ z ∧ z < (nl : Int)) := fun z hz => by have := (risB_iff.1 HRS.out).1 z hz; omega
    have hnk : nk ≤ 1048576 := HKM.out
    have c3' := R0.out.cell 3
    go_wp2_with fail
    clear c3'
    go_loopw [36] (fun i wr => ∃ j : Nat, j ≤ nl ∧ i = .int .i64 j ∧ Hid (∀ t, t < j → (os.getD t false && !h.l.getD t false) = false) ∧ Hid (Below w2.heap.size w2 wr)) (fun i _ => nl - (intOf i).toNat)
    case atStart => exact ⟨0, Nat.zero_le _, rfl, fun t ht => by omega, Below.refl _ _⟩
    case round =>
      obtain ⟨j, hj, rfl, hd, hb⟩ := hrel
      by_cases hlt : j < nl
      · obtain ⟨ob, oo, rfl, hco⟩ := (O0.out.below hb.out).at' (by omega)
        obtain ⟨lb, lo, rfl, hcl⟩ := (A0.out.below hb.out).l.at' (by omega)
        have q := hco j hlt
        have q1 := hcl j hlt
        have R1 := Lib.hid (Row.below R0.out hb.out)
        have c1 := R1.out.cell 1
        have i2 : (j : Int) < (nl : Int) := by omega
        have i3 : (0 : Int) ≤ (j : Int) := by omega
        have HST : Hid ((os.getD j false && !h.l.getD j false) = false → ∀ t, t < j + 1 → (os.getD t false && !h.l.getD t false) = false) := fun e t ht => by
          by_cases ee : t = j
          · subst ee; exact e
          · exact hd.out t (by omega)
        have HBAD : Hid ((os.getD j false && !h.l.getD j false) = true → ag = false) := fun e => HNO.out fun q => by
          have := q.lv j (by rw [HNS.out]; exact hlt)
          rw [e] at this; cases this
        clear hco hcl
        generalize os.getD j false = x at *
        generalize h.l.getD j false = y at *
        cases x
        · have HE := Lib.hid (HST.out rfl)
          go_wp2_with fail
          go_roundw
          case rel => exact ⟨j + 1, by omega, by go_num, HE, hb⟩
          case measure => simp [intOf]; omega
        · cases y
          · have HE := Lib.hid (HBAD.out rfl)
            go_wp2_with fail
            go_ret
            exact ⟨r_b HE.out.symm, bst B0.out hb.out B0.out.size⟩
          · have HE := Lib.hid (HST.out rfl)
            go_wp2_with fail
            go_roundw
            case rel => exact ⟨j + 1, by omega, by go_num, HE, hb⟩
            case measure => simp [intOf]; omega
      · have HLV : Hid (∀ t, t < nl → (os.getD t false && !h.l.getD t false) = false) := fun t ht => hd.out t (by omega)
        replace A0 := Lib.hid (A0.out.below hb.out); replace O0 := Lib.hid (O0.out.below hb.out); replace K0 := Lib.hid (K0.out.below hb.out)
        replace R0 := Lib.hid (Row.below R0.out hb.out); replace B0 := Lib.hid (bst B0.out hb.out B0.out.size)
        clear hb hd
        have c4 := R0.out.cell 4
        go_wp2_with fail
        clear c4
        generalize wr = w3 at *
        go_loopw [55] (fun i wr => ∃ j : Nat, j ≤ nk ∧ i = .int .i64 j ∧ Hid (∀ t, t < j → os.getD (bk.getD t 0).toNat false = true) ∧ Hid (Below w3.heap.size w3 wr)) (fun i _ => nk - (intOf i).toNat)
        case atStart => exact ⟨0, Nat.zero_le _, rfl, fun t ht => by omega, Below.refl _ _⟩
        case round =>
          obtain ⟨j, hj, rfl, hd, hb⟩ := hrel
          by_cases hlt : j < nk
          · obtain ⟨kb, ko, rfl, hck⟩ := (K0.out.below hb.out).at' (by omega)
            have q := hck j hlt
            have hjk : j < bk.length := by rw [HNK.out]; exact hlt
            obtain ⟨z0, z1⟩ := HBI.out _ (mem_getD.2 ⟨j, hjk, rfl⟩)
            obtain ⟨t, htz⟩ : ∃ t : Nat, bk.getD j 0 = t := ⟨(bk.getD j 0).toNat, by omega⟩
            have htn : t < nl := by omega
            obtain ⟨ob, oo, rfl, hco⟩ := (O0.out.below hb.out).at' (by omega)
            have q1 := hco t htn
            have R1 := Lib.hid (Row.below R0.out hb.out)
            have c3' := R1.out.cell 3
            have i2 : (j : Int) < (nk : Int) := by omega
            have i3 : (0 : Int) ≤ (j : Int) := by omega
            have i4 : (t : Int) < (nl : Int) := by omega
            have i5 : (0 : Int) ≤ (t : Int) := by omega
            have HTT : Hid ((bk.getD j 0).toNat = t) := by unfold Hid; rw [htz]; simp
            have HST : Hid (os.getD t false = true → ∀ u, u < j + 1 → os.getD (bk.getD u 0).toNat false = true) := fun e u hu => by
              by_cases ee : u = j
              · subst ee; rw [HTT.out]; exact e
              · exact hd.out u (by omega)
            have HBAD : Hid (os.getD t false = false → ag = false) := fun e => HNO.out fun q => by
              have := q.bo j hjk
              rw [HTT.out, e] at this; cases this
            rw [htz] at q
            clear hck hco z0 z1 htz htn
            generalize os.getD t false = x at *
            cases x
            · have HE := Lib.hid (HBAD.out rfl)
              go_wp2_with fail
              go_ret
              exact ⟨r_b HE.out.symm, bst B0.out hb.out B0.out.size⟩
            · have HE := Lib.hid (HST.out rfl)
              go_wp2_with fail
              go_roundw
              case rel => exact ⟨j + 1, by omega, by go_num, HE, hb⟩
              case measure => simp [intOf]; omega
          · have HBO : Hid (∀ t, t < nk → os.getD (bk.getD t 0).toNat false = true) := fun t ht => hd.out t (by omega)
            replace A0 := Lib.hid (A0.out.below hb.out); replace O0 := Lib.hid (O0.out.below hb.out); replace K0 := Lib.hid (K0.out.below hb.out)
            replace R0 := Lib.hid (Row.below R0.out hb.out); replace B0 := Lib.hid (bst B0.out hb.out B0.out.size)
            clear hb hd
            have c0 := R0.out.cell 0
            have c1 := R0.out.cell 1
            have c2 := R0.out.cell 2
            have c3' := R0.out.cell 3
            go_wp2_with fail
            refine (s_l9Naming _ _ _ _ h os _ A0.out G.out O0.out (by rw [HNS.out, HNF.out])).mono ?_
            rintro e w5 ⟨vn, rfl, ho, hb⟩
            obtain ⟨pN, qN, rfl⟩ := ho.ints.shape
            have U0 := Lib.hid ho.ints
            replace K0 := Lib.hid (K0.out.below hb)
            replace R0 := Lib.hid (Row.below R0.out hb); replace B0 := Lib.hid (bst B0.out hb B0.out.size)
            have HM12 : Hid ((nmL h os).length ≤ os.length) := nmTo_len h os os.length
            clear ho hb c0 c1 c2 c3' A0 O0
            generalize hnm : (nmL h os).length = nm at *
            have HNM := Lib.hid hnm; clear hnm
            have hnm12 : nm ≤ 12 := by have := HM12.out; have := HNS.out; omega
            go_wp2_with fail
            go_loopw [72] (fun i wr => ∃ j : Nat, j ≤ nm ∧ i = .int .i64 j ∧ Hid (∀ t, t < j → bk.contains ((nmL h os).getD t 0) = true) ∧ Hid (Below w5.heap.size w5 wr)) (fun i _ => nm - (intOf i).toNat)
            case atStart => exact ⟨0, Nat.zero_le _, rfl, fun t ht => by omega, Below.refl _ _⟩
            case round =>
              obtain ⟨j, hj, rfl, hd, hb⟩ := hrel
              by_cases hlt : j < nm
              · obtain ⟨kb, ko, rfl, hck⟩ := (U0.out.below hb.out).at' (by omega)
                have q := hck j hlt
                have R1 := Lib.hid (Row.below R0.out hb.out)
                have K1 := Lib.hid (K0.out.below hb.out)
                have c4 := R1.out.cell 4
                have i2 : (j : Int) < (nm : Int) := by omega
                have i3 : (0 : Int) ≤ (j : Int) := by omega
                have HST : Hid (bk.contains ((nmL h os).getD j 0) = true → ∀ t, t < j + 1 → bk.contains ((nmL h os).getD t 0) = true) := fun e t ht => by
                  by_cases ee : t = j
                  · subst ee; exact e
                  · exact hd.out t (by omega)
                have HBAD : Hid (bk.contains ((nmL h os).getD j 0) = false → ag = false) := fun e => HNO.out fun q => by
                  have := q.nm j (by rw [HNM.out]; exact hlt)
                  rw [e] at this; cases this
                clear hck
                generalize (nmL h os).getD j 0 = z at *
                go_wp2_with fail
                refine (s_l1Has _ bk z _ K1.out (by rw [HNK.out]; have := HKM.out; omega)).mono ?_
                rintro e w6 ⟨rfl, hb6⟩
                have B6 := Lib.hid (bst hb.out hb6 hb.out.size)
                clear hb6 c4 q
                generalize bk.contains z = x at *
                cases x
                · have HE := Lib.hid (HBAD.out rfl)
                  go_wp2_with fail
                  go_ret
                  exact ⟨r_b HE.out.symm, bst B0.out B6.out B0.out.size⟩
                · have HE := Lib.hid (HST.out rfl)
                  go_wp2_with fail
                  go_roundw
                  case rel => exact ⟨j + 1, by omega, by go_num, HE, B6⟩
                  case measure => simp [intOf]; omega
              · have HE : Hid (ag = true) := HYES.out ⟨HGD.out, by rw [HNS.out, HNF.out], by rw [HNS.out]; exact HRS.out, fun t ht => HLV.out t (by rw [← HNS.out]; exact ht), fun t ht => HBO.out t (by rw [← HNK.out]; exact ht), fun t ht => hd.out t (by rw [HNM.out] at ht; omega)⟩
                go_wp2_with fail
                go_ret
                exact ⟨r_b HE.out.symm, bst B0.out hb.out B0.out.size⟩
  · have HE : Hid (ag = false) := HNO.out (fun q => hl q.ol)
    have i1 : ((os.length : Int) == (h.f.length : Int)) = false := by simp; omega
    have i2 : ¬ (os.length : Int) = (h.f.length : Int) := by omega
    clear hl
    generalize os.length = no at *
    generalize h.f.length = nf at *
    go_wp2_with fail
    go_ret
    exact ⟨r_b HE.out.symm, B0.out⟩
set_option maxHeartbeats 3200000 in
set_option maxRecDepth 100000 in
theorem s_OldNaming (a b c o k : Value) (h : H) (os : List Bool) (bk : List Int) (w : World) (hA : HeapAt w a b c h) (hO : BoolsAt w o os) (hK : IntsAt w k bk) (hkm : bk.length ≤ 1048576) : Calls Try.prog 59 #[av a b c o k] w (EndI (nmR h os bk) (agesB h os bk) w) := by
  have b0 := below1 w (.cells (a5 a b c o k) 59)
  have A0 := Lib.hid (hA.below b0); have O0 := Lib.hid (hO.below b0); have K0 := Lib.hid (hK.below b0)
  have B0 := Lib.hid b0
  have R0 := Lib.hid (Row.new w 59 (a5 a b c o k))
  have HC := Lib.hid (s_GoodAges a b c o k h os bk _ A0.out O0.out K0.out hkm)
  have GG := Lib.hid (agesB_iff (h := h) (os := os) (bk := bk)).1
  have HR : Hid (nmR h os bk = if agesB h os bk = true then nmL h os else []) := rfl
  clear hA hO hK b0 hkm
  generalize nmR h os bk = res at *
  generalize hag : agesB h os bk = ag at *
  clear hag
  go_enter Try.func59, Try.ntmps59
  go_wp2_with fail
  refine HC.out.mono ?_
  rintro e w1 ⟨rfl, hb⟩
  replace A0 := Lib.hid (A0.out.below hb); replace O0 := Lib.hid (O0.out.below hb)
  replace R0 := Lib.hid (Row.below R0.out hb); replace B0 := Lib.hid (bst B0.out hb B0.out.size)
  clear hb HC
  cases ag
  · have HE : Hid (res = []) := by unfold Hid; rw [HR.out]; rfl
    go_wp2_with fail
    go_ret2
    exact endI_no B0.out HE.out rfl
  have Q := Lib.hid (GG.out rfl)
  have HE : Hid (res = nmL h os) := by unfold Hid; rw [HR.out]; rfl
  have c0 := R0.out.cell 0
  have c1 := R0.out.cell 1
  have c2 := R0.out.cell 2
  have c3' := R0.out.cell 3
  have c4 := R0.out.cell 4
  go_wp2_with fail
  refine (s_l9Naming _ _ _ _ h os _ A0.out Q.out.g O0.out Q.out.ol).mono ?_
  rintro e w2 ⟨v, rfl, ho, hb⟩
  have O2 := Lib.hid (Own.mono ho B0.out.size); have B2 := Lib.hid (bst B0.out hb B0.out.size)
  clear ho hb c0 c1 c2 c3' c4
  go_wp2_with fail
  go_ret2
  exact endI_yes B2.out O2.out (Nat.le_refl _) HE.out rfl
set_option maxHeartbeats 3200000 in
set_option maxRecDepth 100000 in
theorem s_YoungIn (a b c o k : Value) (h : H) (os : List Bool) (bk : List Int) (w : World) (hA : HeapAt w a b c h) (hO : BoolsAt w o os) (hK : IntsAt w k bk) (hkm : bk.length ≤ 1048576) : Calls Try.prog 61 #[av a b c o k] w fun e w' => e = .returned (.tuple #[.int .i64 (yR h os bk), .bool (agesB h os bk)]) ∧ Below w.heap.size w w' := by
  have b0 := below1 w (.cells (a5 a b c o k) 59)
  have A0 := Lib.hid (hA.below b0); have O0 := Lib.hid (hO.below b0); have K0 := Lib.hid (hK.below b0)
  have B0 := Lib.hid b0
  have R0 := Lib.hid (Row.new w 59 (a5 a b c o k))
  have HC := Lib.hid (s_GoodAges a b c o k h os bk _ A0.out O0.out K0.out hkm)
  have GG := Lib.hid (agesB_iff (h := h) (os := os) (bk := bk)).1
  have HR : Hid (yR h os bk = if agesB h os bk = true then youngs h os else 0) := rfl
  clear hA hO hK b0 hkm
  generalize yR h os bk = res at *
  generalize hag : agesB h os bk = ag at *
  clear hag
  go_enter Try.func61, Try.ntmps61
  go_wp2_with fail
  refine HC.out.mono ?_
  rintro e w1 ⟨rfl, hb⟩
  replace A0 := Lib.hid (A0.out.below hb); replace O0 := Lib.hid (O0.out.below hb)
  replace R0 := Lib.hid (Row.below R0.out hb); replace B0 := Lib.hid (bst B0.out hb B0.out.size)
  clear hb HC
  cases ag
  · have HE : Hid (res = 0) := by unfold Hid; rw [HR.out]; rfl
    go_wp2_with fail
    go_ret2
    exact ⟨by rw [HE.out]; rfl, B0.out⟩
  have Q := Lib.hid (GG.out rfl)
  have HE : Hid (res = (yCnt h.l os os.length : Int)) := by unfold Hid; rw [HR.out]; exact youngs_eq Q.out
  have HOL : Hid (os.length ≤ 12) := Q.out.olN
  have HLL : Hid (os.length = h.l.length) := by unfold Hid; rw [Q.out.ol, Q.out.g.ll]
  have HYL := Lib.hid (yCnt_le h.l os)
  have HY0 : Hid (yCnt h.l os 0 = 0) := rfl
  have HYS : Hid (∀ n, yCnt h.l os (n + 1) = if (h.l.getD n false && !os.getD n false) = true then yCnt h.l os n + 1 else yCnt h.l os n) := fun n => rfl
  obtain ⟨la, lc, rfl⟩ := A0.out.l.shape
  obtain ⟨oa, oc, rfl⟩ := O0.out.shape
  rw [← HLL.out] at *
  clear Q GG HLL
  generalize hno : os.length = n at *
  have HNO := Lib.hid hno; clear hno
  have hn12 : n ≤ 12 := HOL.out
  have c3' := R0.out.cell 3
  go_wp2_with fail
  clear c3'
  go_loopw [4, 13] (fun y i wr => ∃ j : Nat, j ≤ n ∧ i = .int .i64 j ∧ y = .int .i64 (yCnt h.l os j : Int) ∧ Hid (Below w1.heap.size w1 wr)) (fun _ i _ => n - (intOf i).toNat)
  case atStart => exact ⟨0, Nat.zero_le _, rfl, rfl, Below.refl _ _⟩
  case round =>
    obtain ⟨j, hj, rfl, rfl, hb⟩ := hrel
    by_cases hlt : j < n
    · obtain ⟨ob, oo, rfl, hco⟩ := (O0.out.below hb.out).at' (by omega)
      obtain ⟨lb, lo, rfl, hcl⟩ := (A0.out.below hb.out).l.at' (by omega)
      have q := hco j hlt
      have q1 := hcl j hlt
      have c1 := Row.cell (Row.below R0.out hb.out) 1
      have i2 : (j : Int) < (n : Int) := by omega
      have i3 : (0 : Int) ≤ (j : Int) := by omega
      have HS := Lib.hid (HYS.out j)
      have hle := HYL.out j
      clear hco hcl
      generalize os.getD j false = x at *
      generalize h.l.getD j false = y at *
      generalize hyc : yCnt h.l os j = yc at *
      clear hyc
      have hwr : IntKind.i64.wrap ((yc : Int) + 1) = (yc : Int) + 1 := IntWalk.i64_in _ (by omega)
      cases y
      · have HE2 : Hid (yCnt h.l os (j + 1) = yc) := HS.out
        go_wp2_with fail
        go_roundw
        case rel => exact ⟨j + 1, by omega, by go_num, by rw [HE2.out], hb⟩
        case measure => simp [intOf]; omega
      · cases x
        · have HE2 : Hid (yCnt h.l os (j + 1) = yc + 1) := HS.out
          go_wp2_with fail
          go_roundw
          case rel => exact ⟨j + 1, by omega, by go_num, by rw [HE2.out]; simp, hb⟩
          case measure => simp [intOf]; omega
        · have HE2 : Hid (yCnt h.l os (j + 1) = yc) := HS.out
          go_wp2_with fail
          go_roundw
          case rel => exact ⟨j + 1, by omega, by go_num, by rw [HE2.out], hb⟩
          case measure => simp [intOf]; omega
    · obtain rfl : j = n := by omega
      go_wp2_with fail
      go_ret2
      exact ⟨by rw [HE.out]; rfl, bst B0.out hb.out B0.out.size⟩
end Go.Proofs.Ytbmfkgfmibpkjaa
namespace Go.Proofs.Ytbmfkgfmibpkjaa
open Go.ChangeShapes Go.WideShapes Go.ChangeAt Go.RowKit

theorem own : ownKnob Try.prog.godebug = none := by kernel_rfl
theorem laidOut : laidOutB Try.prog = true := by kernel_rfl

section
variable {H : Type} {enc : TypeId × Value → H} {P : Program}
theorem trodAll_below (hl : laidOutB P = true) {W W' : World} (hb : Below W.heap.size W W') :
    ∀ (ts : List TypeId) (vs : List Value) (ds : List (DataW H)) (ps : List MemPlace), (∀ t ∈ ts, P.readableRec t = true ∧ t < P.types.size) →
      DataW.TrodAll enc P W 0 (fun _ => true) true ts vs ds ps → (∀ x ∈ ps, x.block < W.heap.size) →
      DataW.TrodAll enc P W' 0 (fun b => decide (b < W.heap.size)) true ts vs ds ps
  | [], [], [], _, _, h, _ => h
  | t :: ts, v :: vs, d :: ds, ps, hr, h, hlt => by
    obtain ⟨p, q, h1, h2, rfl⟩ := h
    exact ⟨p, q, Below.trod hl (hr t (by simp)).1 (hr t (by simp)).2 h1 hb (fun x hx => hlt x (by simp [hx])),
      trodAll_below hl hb ts vs ds q (fun t ht => hr t (by simp [ht])) h2 (fun x hx => hlt x (by simp [hx])), rfl⟩
  | [], [], _ :: _, _, _, h, _ => h.elim
  | [], _ :: _, _, _, _, h, _ => h.elim
  | _ :: _, [], _, _, _, h, _ => h.elim
  | _ :: _, _ :: _, [], _, _, h, _ => h.elim
theorem var_lt {W : World} {n : String} {g : Nat} {cs : Array Value} (hg : P.globalNamed n = some g) (hv : W.var? P n = some cs) : g < W.heap.size := by
  unfold World.var? at hv
  simp only [hg, Option.bind_some] at hv
  by_cases h : g < W.heap.size
  · exact h
  · have hn : W.heap[g]? = none := by simp; omega
    simp [hn] at hv
theorem trodVars_below (hl : laidOutB P = true) {W W' : World} (hb : Below W.heap.size W W') :
    ∀ (ns : List String) (ds : List (DataW H)) (ps : List MemPlace), (∀ n ∈ ns, ∀ g t, P.globalNamed n = some g → (P.globals[g]?).map (·.type) = some t → P.readableRec t = true ∧ t < P.types.size) →
      DataW.TrodVars enc P W (fun _ => true) ns ds ps → (∀ x ∈ ps, x.block < W.heap.size) →
      DataW.TrodVars enc P W' (fun b => decide (b < W.heap.size)) ns ds ps
  | [], [], _, _, h, _ => h
  | n :: ns, d :: ds, ps, hr, h, hlt => by
    obtain ⟨g, t, cs, fuel, p, q, h1, h2, h3, h4, h5, rfl⟩ := h
    have ht : DataW.Trod enc P W 0 (fun _ => true) true t (.agg cs) d p := ⟨fuel, h4⟩
    obtain ⟨fuel', h4'⟩ := Below.trod hl (hr n (by simp) g t h1 h2).1 (hr n (by simp) g t h1 h2).2 ht hb (fun x hx => hlt x (by simp [hx]))
    exact ⟨g, t, cs, fuel', p, q, h1, h2, var?_below hb h1 (var_lt h1 h3) h3, h4', trodVars_below hl hb ns ds q (fun n hn => hr n (by simp [hn])) h5 (fun x hx => hlt x (by simp [hx])), rfl⟩
  | [], _ :: _, _, _, h, _ => h.elim
  | _ :: _, [], _, _, h, _ => h.elim

/-- THE END OF A LAW: it answered true, nothing old has turned. -/
theorem law_post {fn : Func} {s : ChangeSpec} {W W' : World} {args : Array Value} {ds gs : List (DataW H)} {before : List MemPlace} {tb : TypeId} (hl : laidOutB P = true)
    (hps : ∀ t ∈ fn.params.toList, P.readableRec t = true ∧ t < P.types.size) (hvs : ∀ n ∈ s.vars, ∀ g t, P.globalNamed n = some g → (P.globals[g]?).map (·.type) = some t → P.readableRec t = true ∧ t < P.types.size)
    (hW : DataW.Whole enc P fn.params.toList s.vars false W args.toList ds gs before) (hb : Below W.heap.size W W') (hs : s.fn H (ds ++ gs) = { results := [.lit (.bool true)], args := ds, vars := gs })
    (hr : fn.resultTypes = #[tb]) (ht : P.underlying tb = some .bool) : s.post enc P fn false true false false W args (.bool true) W' := by
  have hW' := hW
  obtain ⟨p, q, hA, hV, rfl, hfz, hnd⟩ := hW
  have hlt : ∀ x ∈ p ++ q, x.block < W.heap.size := fun x hx => hW'.lt x hx
  refine ⟨ds, gs, p ++ q, [], p, q, hW', ?_, ?_, ?_, hb.frame _, fun h => by cases h⟩
  · rw [hs, hr]
    exact trodAll_cons_mk (shut_bool ht _) trodAll_mk0
  · rw [hs]
    exact trodAll_below hl hb _ _ _ _ hps hA (fun x hx => hlt x (by simp [hx]))
  · rw [hs]
    exact trodVars_below hl hb _ _ _ hvs hV (fun x hx => hlt x (by simp [hx]))
end
theorem cellsInt : Try.prog.cellsOf 3 = 1 := by kernel_rfl
end Go.Proofs.Ytbmfkgfmibpkjaa
namespace Go.Proofs.Ytbmfkgfmibpkjaa
open Go.ChangeShapes Go.WideShapes Go.ChangeAt Go.RowKit Ph

theorem r_heap : Try.prog.readableRec 26 = true ∧ 26 < Try.prog.types.size := ⟨by kernel_rfl, of_decide_eq_true (by kernel_rfl)⟩
theorem cellsIntsL : Try.prog.cellsOf 24 = 1 := by kernel_rfl
theorem cellsBool : Try.prog.cellsOf 4 = 1 := by kernel_rfl
theorem add_none (b off i : Nat) : (⟨b, off, none⟩ : Addr).add i = ⟨b, off + i, none⟩ := by simp [Addr.add]
theorem ints_cells {H : Type} {enc : TypeId × Value → H} {W : World} {fuel : Nat} {v : Value} {x : DataW H × List MemPlace} (h : DataW.trod enc Try.prog W 0 (fun _ => true) true fuel 24 [v] = some x) : ∃ zs, IntsAt W v zs ∧ zs.length ≤ 9223372036854775807 := by
  rcases open_ints Try.underlying24 Try.underlying3 cellsInt h with ⟨hcs, hx⟩ | ⟨a, len', cap', zs, hcs, _, hl, hm, hz, hx, hcell, hwz⟩
  · simp only [List.cons.injEq, and_true] at hcs
    subst hcs
    exact ⟨[], ⟨none, 0, rfl, fun h => absurd h (by simp)⟩, by simp⟩
  · simp only [List.cons.injEq, and_true] at hcs
    subst hcs
    simp only [if_true] at hz
    have hlen : (zs.take len').length = len' := by rw [List.length_take]; omega
    refine ⟨zs.take len', ⟨some a, cap', by rw [hlen], fun h0 => ?_⟩, by rw [hlen]; unfold maxLen at hm; omega⟩
    rw [hlen] at h0 ⊢
    obtain ⟨b, off, rfl, hc⟩ := ints_at hcell (by omega)
    refine ⟨b, off, rfl, fun i hi => ?_⟩
    rw [hc i (by omega)]
    simp [List.getD, hi]
theorem bools_cells {H : Type} {enc : TypeId × Value → H} {W : World} {fuel : Nat} {v : Value} {x : DataW H × List MemPlace} (h : DataW.trod enc Try.prog W 0 (fun _ => true) true fuel 23 [v] = some x) : ∃ bs, BoolsAt W v bs ∧ bs.length ≤ 9223372036854775807 := by
  rcases Deep.open_bools Try.underlying23 Try.underlying4 cellsBool h with ⟨hcs, hx⟩ | ⟨a, len, cap, B, hcs, _, hl, hm, hx, hcell⟩
  · simp only [List.cons.injEq, and_true] at hcs
    subst hcs
    exact ⟨[], ⟨none, 0, rfl, fun h => absurd h (by simp)⟩, by simp⟩
  · simp only [List.cons.injEq, and_true] at hcs
    subst hcs
    have hln : ((List.range len).map B).length = len := by simp
    refine ⟨(List.range len).map B, ⟨some a, cap, by rw [hln], fun h0 => ?_⟩, by rw [hln]; unfold maxLen at hm; omega⟩
    rw [hln] at h0 ⊢
    obtain ⟨b, off, spot⟩ := a
    have hspot : spot = none := by simpa [Addr.add] using World.cell?_spot (hcell 0 (by omega))
    subst hspot
    refine ⟨b, off, rfl, fun i hi => ?_⟩
    have h1 := hcell i (by omega)
    rw [add_none] at h1
    rw [h1]
    simp [List.getD, hi]
theorem rows_cells {H : Type} {enc : TypeId × Value → H} {W : World} {fuel : Nat} {v : Value} {x : DataW H × List MemPlace} (h : DataW.trod enc Try.prog W 0 (fun _ => true) true fuel 22 [v] = some x) : ∃ fs, RowsAt W v fs ∧ Fit fs ∧ fs.length ≤ 9223372036854775807 := by
  rcases Deep.open_int_rows Try.underlying22 Try.underlying24 Try.underlying3 cellsIntsL cellsInt h with ⟨hcs, hx⟩ | ⟨a, len, cap, A, L, C, Z, hcs, _, hl, hm, hx, hrow⟩
  · simp only [List.cons.injEq, and_true] at hcs
    subst hcs
    exact ⟨[], ⟨none, 0, rfl, fun h => absurd h (by simp)⟩, fun k hk => by simp at hk, by simp⟩
  · simp only [List.cons.injEq, and_true] at hcs
    subst hcs
    have hln : ((List.range len).map fun r => (Z r).take (L r)).length = len := by simp
    have hgd : ∀ i, i < len → ((List.range len).map fun r => (Z r).take (L r)).getD i [] = (Z i).take (L i) := fun i hi => by simp [List.getD, hi]
    have hlr : ∀ i, i < len → ((Z i).take (L i)).length = L i := fun i hi => by
      obtain ⟨_, h1, _, h2, _⟩ := hrow i (by omega)
      rw [List.length_take]; omega
    refine ⟨(List.range len).map fun r => (Z r).take (L r), ⟨some a, cap, by rw [hln], fun h0 => ?_⟩, fun k hk => ?_, by rw [hln]; unfold maxLen at hm; omega⟩
    · rw [hln] at h0 ⊢
      obtain ⟨b, off, spot⟩ := a
      have hspot : spot = none := by simpa [Addr.add] using World.cell?_spot (hrow 0 (by omega)).1
      subst hspot
      refine ⟨b, off, rfl, fun i hi => ?_⟩
      obtain ⟨q, h1, h2, h3, _, h5, h6⟩ := hrow i (by omega)
      rw [add_none] at q
      refine ⟨_, q, ?_⟩
      rw [hgd i hi]
      refine ⟨A i, C i, by rw [hlr i hi], fun hp => ?_⟩
      rw [hlr i hi] at hp ⊢
      cases hA : A i with
      | none => have := h5 hA; omega
      | some a' =>
        obtain ⟨_, hc⟩ := h6 a' hA
        obtain ⟨b', off', spot'⟩ := a'
        have hs' : spot' = none := by simpa [Addr.add] using World.cell?_spot (hc 0 (by omega))
        subst hs'
        refine ⟨b', off', rfl, fun j hj => ?_⟩
        have := hc j (by omega)
        rw [add_none] at this
        rw [this]
        simp [List.getD, hj]
    · rw [hln] at hk
      rw [hgd k hk, hlr k hk]
      obtain ⟨_, h1, h2, _⟩ := hrow k (by omega)
      unfold maxLen at h2; omega
set_option maxRecDepth 100000 in
theorem heap_of_arg {H : Type} {enc : TypeId × Value → H} {W : World} {base : Nat} {v : Value} {d : DataW H} {p : List MemPlace} (hval : Value.okWide Try.prog W .any base 26 v)
    (h : DataW.Trod enc Try.prog W 0 (fun _ => true) true 26 v d p) : ∃ (a b c : Value) (k : Ph.H), v = hv a b c ∧ HeapAt W a b c k ∧ FitH k := by
  obtain ⟨v0, v1, v2, y0, y1, y2, n, rfl, _, _, h0, h1, h2⟩ := Joins.open_agg3 Try.underlying26 (by kernel_rfl) (by kernel_rfl) hval h
  obtain ⟨fs, r1, r2, r3⟩ := rows_cells h0
  obtain ⟨bs, s1, s2⟩ := bools_cells h1
  obtain ⟨zs, t1, t2⟩ := ints_cells h2
  exact ⟨v0, v1, v2, ⟨fs, bs, zs⟩, rfl, ⟨r1, s1, t1⟩, ⟨r2, r3, s2, t2⟩⟩
end Go.Proofs.Ytbmfkgfmibpkjaa
namespace Go.Proofs.Ytbmfkgfmibpkjaa
open Go.ChangeShapes Go.WideShapes Go.ChangeAt Go.RowKit Ph

theorem r_ages : Try.prog.readableRec 66 = true ∧ 66 < Try.prog.types.size := ⟨by kernel_rfl, of_decide_eq_true (by kernel_rfl)⟩
theorem cellsAgesL : Try.prog.cellsOf 66 = 5 := by kernel_rfl
theorem cellsHeapG : Try.prog.cellsOf 26 = 3 := by kernel_rfl
theorem cellsRowsG : Try.prog.cellsOf 22 = 1 := by kernel_rfl
theorem cellsBoolsG : Try.prog.cellsOf 23 = 1 := by kernel_rfl
theorem array5 {cs : Array Value} (h : cs.size = 5) : ∃ x0 x1 x2 x3 x4, cs = #[x0, x1, x2, x3, x4] := by
  obtain ⟨l⟩ := cs
  match l, h with
  | [x0, x1, x2, x3, x4], _ => exact ⟨x0, x1, x2, x3, x4, rfl⟩
set_option maxRecDepth 100000 in
theorem ages_of_arg {H : Type} {enc : TypeId × Value → H} {W : World} {base : Nat} {v : Value} {d : DataW H} {p : List MemPlace} (hval : Value.okWide Try.prog W .any base 66 v)
    (h : DataW.Trod enc Try.prog W 0 (fun _ => true) true 66 v d p) : ∃ (a b c o x : Value) (k : Ph.H) (os : List Bool) (cs : List Int), v = av a b c o x ∧ HeapAt W a b c k ∧ BoolsAt W o os ∧ IntsAt W x cs ∧ FitH k ∧ os.length ≤ 9223372036854775807 ∧ cs.length ≤ 9223372036854775807 := by
  obtain ⟨cs, rfl, hsz⟩ := okWide_struct Try.underlying66 hval
  obtain ⟨x0, x1, x2, x3, x4, rfl⟩ := array5 (hsz.trans cellsAgesL)
  obtain ⟨fuel, hf⟩ := h
  obtain ⟨y0, y1, y5, n, _, _, h0, h1, h5⟩ := Go.Deep.trod_struct3 Try.underlying66 hf
  simp only [Value.cells, cellsHeapG, cellsBoolsG, cellsIntsL, List.drop_zero, List.drop_succ_cons, List.take_succ_cons, List.take_zero] at h0 h1 h5
  obtain ⟨y2, y3, y4, m, _, _, h2, h3, h4⟩ := Go.Deep.trod_struct3 Try.underlying26 h0
  simp only [cellsRowsG, cellsBoolsG, cellsIntsL, List.drop_zero, List.drop_succ_cons, List.take_succ_cons, List.take_zero] at h2 h3 h4
  obtain ⟨fs, r1, r2, r3⟩ := rows_cells h2
  obtain ⟨bs, s1, s2⟩ := bools_cells h3
  obtain ⟨zs, t1, t2⟩ := ints_cells h4
  obtain ⟨os, o1, o2⟩ := bools_cells h1
  obtain ⟨us, u1, u2⟩ := ints_cells h5
  exact ⟨x0, x1, x2, x3, x4, ⟨fs, bs, zs⟩, os, us, rfl, ⟨r1, s1, t1⟩, o1, u1, ⟨r2, r3, s2, t2⟩, o2, u2⟩
end Go.Proofs.Ytbmfkgfmibpkjaa
namespace Go.Proofs.Ytbmfkgfmibpkjaa.Ph
noncomputable def keepS (fs : List (List Int)) (S : List Bool) (zs : List Int) : List Bool := (List.range fs.length).map fun k => @decide (S.getD k false = true ∨ ReachS fs S zs k) (Classical.propDecidable _)
theorem keepS_len (fs : List (List Int)) (S : List Bool) (zs : List Int) : (keepS fs S zs).length = fs.length := by simp [keepS]
theorem keepS_get {fs : List (List Int)} {S : List Bool} {zs : List Int} {k : Nat} : (keepS fs S zs).getD k false = true ↔ k < fs.length ∧ (S.getD k false = true ∨ ReachS fs S zs k) := by
  by_cases hk : k < fs.length
  · have e : (keepS fs S zs).getD k false = @decide (S.getD k false = true ∨ ReachS fs S zs k) (Classical.propDecidable _) := by
      unfold keepS
      rw [List.getD, List.getElem?_map, List.getElem?_range hk]; rfl
    rw [e, @decide_eq_true_eq _ (Classical.propDecidable _)]
    exact ⟨fun q => ⟨hk, q⟩, fun q => q.2⟩
  · have e : (keepS fs S zs).getD k false = false := by
      unfold keepS
      rw [List.getD, List.getElem?_map, List.getElem?_eq_none (by simp; omega)]; rfl
    rw [e]
    exact ⟨fun q => by (cases q), fun q => absurd q.1 hk⟩
theorem eqL {xs ys : List Bool} (hl : xs.length = ys.length) (h : ∀ k, xs.getD k false = true ↔ ys.getD k false = true) : xs = ys := by
  apply List.ext_getElem?
  intro k
  by_cases hk : k < xs.length
  · have e1 : xs[k]? = some (xs.getD k false) := by simp [List.getD, List.getElem?_eq_getElem hk]
    have e2 : ys[k]? = some (ys.getD k false) := by simp [List.getD, List.getElem?_eq_getElem (show k < ys.length by omega)]
    rw [e1, e2]; congr 1
    rw [Bool.eq_iff_iff]; exact h k
  · rw [List.getElem?_eq_none (by omega), List.getElem?_eq_none (by omega)]
theorem Vis.keep {fs : List (List Int)} {zs : List Int} {S S' : List Bool} (h : Vis fs zs S S') (hS : S.length = fs.length) : S' = keepS fs S zs := by
  have up : ∀ k, ReachS fs S zs k → S'.getD k false = true := fun k hr => by
    induction hr with
    | root hz => exact h.has _ hz
    | @step y k _ hy hk ih =>
      rcases h.cl _ ih with h1 | h1
      · rw [h1] at hy; cases hy
      · exact h1 _ hk
  refine eqL (by rw [h.len, keepS_len, hS]) fun k => ?_
  rw [keepS_get]
  constructor
  · intro hk
    exact ⟨by have := getD_lt hk; rw [h.len, hS] at this; exact this, h.src k hk⟩
  · rintro ⟨_, hk | hk⟩
    · exact h.sub k hk
    · exact up k hk
theorem Vis.append {fs : List (List Int)} {zs ys : List Int} {S S1 S2 : List Bool} (h : Vis fs zs S S1) (k : Vis fs ys S1 S2) : Vis fs (zs ++ ys) S S2 := by
  refine ⟨by rw [k.len, h.len], fun j hj => k.sub j (h.sub j hj), fun j hj => ?_, fun j hj => ?_, fun j hj => ?_⟩
  · rcases List.mem_append.1 hj with q | q
    · exact k.sub j (h.has j q)
    · exact k.has j q
  · rcases k.cl j hj with q | q
    · rcases h.cl j q with r | r
      · exact .inl r
      · exact .inr fun i hi => k.sub i (r i hi)
    · exact .inr q
  · rcases k.src j hj with q | q
    · exact (h.src j q).imp id fun r => r.mono (fun _ x => x) fun i hi => .root (List.mem_append.2 (.inl hi))
    · exact .inr (q.mono (fun i hi => h.sub i hi) fun i hi => .root (List.mem_append.2 (.inr hi)))
/-- A queue's round where some are marked already. -/
structure BfsS (fs : List (List Int)) (S0 : List Bool) (zs q : List Int) (S : List Bool) : Prop where
  len : S.length = fs.length
  sub : ∀ k, S0.getD k false = true → S.getD k false = true
  has : ∀ k : Nat, (k : Int) ∈ zs → S.getD k false = true ∨ (k : Int) ∈ q
  cl : ∀ k, S.getD k false = true → S0.getD k false = true ∨ ∀ j : Nat, (j : Int) ∈ fs.getD k [] → S.getD j false = true ∨ (j : Int) ∈ q
  src : ∀ k, S.getD k false = true → S0.getD k false = true ∨ ReachS fs S0 zs k
  srq : ∀ k : Nat, (k : Int) ∈ q → ReachS fs S0 zs k
theorem BfsS.start (fs : List (List Int)) (S0 : List Bool) (zs : List Int) (hl : S0.length = fs.length) : BfsS fs S0 zs zs S0 :=
  ⟨hl, fun _ h => h, fun _ h => .inr h, fun _ h => .inl h, fun _ h => .inl h, fun _ h => .root h⟩
theorem BfsS.skip {fs : List (List Int)} {S0 : List Bool} {zs q : List Int} {S : List Bool} {z : Int} (h : BfsS fs S0 zs (z :: q) S) (hz : z < 0 ∨ S.getD z.toNat false = true) : BfsS fs S0 zs q S := by
  have key : ∀ k : Nat, (S.getD k false = true ∨ (k : Int) ∈ z :: q) → (S.getD k false = true ∨ (k : Int) ∈ q) := fun k hk => by
    rcases hk with hk | hk
    · exact .inl hk
    · rcases List.mem_cons.1 hk with e | e
      · rcases hz with h1 | h1
        · omega
        · rw [← e] at h1; exact .inl (by simpa using h1)
      · exact .inr e
  exact ⟨h.len, h.sub, fun k hk => key k (h.has k hk), fun k hk => (h.cl k hk).imp id fun r j hj => key j (r j hj), h.src, fun k hk => h.srq k (List.mem_cons_of_mem _ hk)⟩
theorem BfsS.take {fs : List (List Int)} {S0 : List Bool} {zs q : List Int} {S : List Bool} {z : Nat} (h : BfsS fs S0 zs ((z : Int) :: q) S) (hz : z < fs.length) (hx : S.getD z false = false) : BfsS fs S0 zs (q ++ fs.getD z []) (S.set z true) := by
  have hzs : z < S.length := by rw [h.len]; exact hz
  have key : ∀ k, (S.set z true).getD k false = true ↔ k = z ∨ S.getD k false = true := fun k => by
    rw [getD_set hzs]; by_cases e : k = z <;> simp [e]
  have hrz : ReachS fs S0 zs z := h.srq z (by simp)
  have hz0 : S0.getD z false = false := by
    cases e : S0.getD z false
    · rfl
    · rw [h.sub z e] at hx; cases hx
  have mv : ∀ k : Nat, (S.getD k false = true ∨ (k : Int) ∈ (z : Int) :: q) → ((S.set z true).getD k false = true ∨ (k : Int) ∈ q ++ fs.getD z []) := fun k hk => by
    rcases hk with hk | hk
    · exact .inl ((key k).2 (.inr hk))
    · rcases List.mem_cons.1 hk with e | e
      · exact .inl ((key k).2 (.inl (by omega)))
      · exact .inr (List.mem_append.2 (.inl e))
  refine ⟨by rw [List.length_set, h.len], fun k hk => (key k).2 (.inr (h.sub k hk)), fun k hk => mv k (h.has k hk), fun k hk => ?_, fun k hk => ?_, fun k hk => ?_⟩
  · rcases (key k).1 hk with rfl | h1
    · exact .inr fun j hj => .inr (List.mem_append.2 (.inr hj))
    · exact (h.cl k h1).imp id fun r j hj => mv j (r j hj)
  · rcases (key k).1 hk with rfl | h1
    · exact .inr hrz
    · exact h.src k h1
  · rcases List.mem_append.1 hk with h1 | h1
    · exact h.srq k (List.mem_cons_of_mem _ h1)
    · exact .step hrz hz0 h1
theorem BfsS.done {fs : List (List Int)} {S0 : List Bool} {zs : List Int} {S : List Bool} (h : BfsS fs S0 zs [] S) : S = keepS fs S0 zs := by
  have up : ∀ k, ReachS fs S0 zs k → S.getD k false = true := fun k hr => by
    induction hr with
    | root hz => rcases h.has _ hz with h1 | h1; exact h1; simp at h1
    | @step y k _ hy hk ih =>
      rcases h.cl _ ih with h1 | h1
      · rw [h1] at hy; cases hy
      · rcases h1 _ hk with h2 | h2
        · exact h2
        · simp at h2
  refine eqL (by rw [h.len, keepS_len]) fun k => ?_
  rw [keepS_get]
  constructor
  · intro hk
    exact ⟨by have := getD_lt hk; rw [h.len] at this; exact this, h.src k hk⟩
  · rintro ⟨_, hk | hk⟩
    · exact h.sub k hk
    · exact up k hk
/-- The fields of the first n objects of the book, one behind another. -/
def flatTo (fs : List (List Int)) (bk : List Int) (n : Nat) : List Int := ((bk.take n).map fun z => fs.getD z.toNat []).flatten
def flatL (fs : List (List Int)) (bk : List Int) : List Int := flatTo fs bk bk.length
theorem flatTo_zero (fs : List (List Int)) (bk : List Int) : flatTo fs bk 0 = [] := rfl
theorem flatTo_succ {fs : List (List Int)} {bk : List Int} {n : Nat} (h : n < bk.length) : flatTo fs bk (n + 1) = flatTo fs bk n ++ fs.getD (bk.getD n 0).toNat [] := by
  have e : bk.getD n 0 = bk[n] := by simp [List.getD, List.getElem?_eq_getElem h]
  unfold flatTo
  rw [List.take_succ_eq_append_getElem h, List.map_append, List.flatten_append, e]; simp
noncomputable def keptA (h : H) (os : List Bool) (bk : List Int) : List Bool := keepS h.f os (h.r ++ flatL h.f bk)
end Go.Proofs.Ytbmfkgfmibpkjaa.Ph
namespace Go.Proofs.Ytbmfkgfmibpkjaa.Ph
noncomputable def keptR9 (h : H) (os : List Bool) (bk : List Int) : List Bool := if agesB h os bk = true then keptA h os bk else []
theorem keptA_len (h : H) (os : List Bool) (bk : List Int) : (keptA h os bk).length = h.f.length := keepS_len _ _ _
theorem keptR9_len (h : H) (os : List Bool) (bk : List Int) : (keptR9 h os bk).length ≤ 1000 := by
  unfold keptR9
  split
  · next q => have := (agesB_iff.1 q).g.n; rw [keptA_len]; omega
  · simp
end Go.Proofs.Ytbmfkgfmibpkjaa.Ph
namespace Go.Proofs.Ytbmfkgfmibpkjaa
open Go.RowKit Ph
theorem owns_ne_rowA {w : World} {B g n cp : Nat} {S : List Bool} {cs : Array Value} {g' : Nat} (h : OwnBs w B (.slice (some ⟨g, 0, none⟩) n cp) S) (hr : Row w g' 59 cs) : ¬ g = g' := by
  intro e
  subst e
  rcases h.2 with ⟨hq, _⟩ | ⟨g2, cap, cur, hq, _, h2, _⟩
  · cases hq
  · cases hq
    unfold Row at hr
    rw [h2] at hr
    cases hr
set_option maxHeartbeats 6400000 in
set_option maxRecDepth 100000 in
theorem c_minorKept (a b c o k : Value) (h : H) (os : List Bool) (bk : List Int) (w : World) (hA : HeapAt w a b c h) (hO : BoolsAt w o os) (hK : IntsAt w k bk) (hQ : AG h os bk) : Calls Try.prog 122 #[av a b c o k] w fun e w' => ∃ v', e = .returned v' ∧ OwnBs w' w.heap.size v' (keptA h os bk) ∧ Below w.heap.size w w' := by
  have b0 := below1 w (.cells (a5 a b c o k) 59)
  have B0 := Lib.hid b0
  have O0 := Lib.hid (hO.below b0)
  have R0 := Lib.hid (Row.new w 59 (a5 a b c o k))
  have HN12 : Hid (os.length ≤ 12) := hQ.olN
  have HB12 : Hid (bk.length ≤ 12) := hQ.bl
  have HOSL : Hid (os.length = h.f.length) := hQ.ol
  have HRI : Hid (∀ z ∈ h.r, inR h.f.length z) := fun z hz => (refs_bound hQ.g hQ.g.rr z hz).imp id (fun q => ⟨q.1, q.2.1⟩)
  have HRL : Hid (h.r.length ≤ 12) := by unfold Hid; have := hQ.g.rn; omega
  have HFI : Hid (∀ i, ∀ z ∈ h.f.getD i [], inR h.f.length z) := fun i z hz => (hQ.g.field hz).imp id (fun q => ⟨q.1, q.2.1⟩)
  have HFL : Hid (∀ i, i < h.f.length → (h.f.getD i []).length ≤ 12) := fun i hi => by have := (hQ.g.row i hi).1; omega
  have HBI : Hid (∀ z ∈ bk, 0 ≤ z ∧ z < h.f.length) := hQ.bin
  have HKE : Hid (∀ S', Vis h.f (h.r ++ flatTo h.f bk bk.length) os S' → S' = keptA h os bk) := fun S' q => q.keep hQ.ol
  have CM : Hid (∀ (g cp : Nat) (v : Value) (zs : List Int) (S : List Bool) (w' : World), IntsAt w v zs → zs.length ≤ 12 → (∀ z ∈ zs, inR h.f.length z) → Below w.heap.size w w' → w.heap.size ≤ g → S.length = h.f.length → OwnBs w' w.heap.size (.slice (some ⟨g, 0, none⟩) h.f.length cp) S → Calls Try.prog 171 #[hv a b c, .slice (some ⟨g, 0, none⟩) h.f.length cp, v] w' fun e w'' => e = .returned (.tuple #[]) ∧ ∃ S', Vis h.f zs S S' ∧ OwnBs w'' w.heap.size (.slice (some ⟨g, 0, none⟩) h.f.length cp) S' ∧ w'.grownBy w'' (some g)) := fun g cp v zs S w' hz hl hr hb hg hs ho => c_reachMore w g h.f.length cp w.heap.size a b c v h zs S w' hA hQ.g hz hl hr hb hg rfl hs ho
  have HR := Lib.hid hA.r
  have HF := Lib.hid hA.f
  have HK := Lib.hid hK
  have HBN : Hid (h.f.length = 0 → bk = []) := fun q => by
    cases bk with
    | nil => rfl
    | cons x r => exact absurd (hQ.bin x (by simp)) (by omega)
  obtain ⟨fa, fc, rfl⟩ := hA.f.shape
  obtain ⟨ka, kc, rfl⟩ := hK.shape
  clear hA hO hK hQ b0
  generalize keptA h os bk = res at *
  generalize hn : h.f.length = n at *
  have HN := Lib.hid hn; clear hn
  generalize hm : bk.length = m at *
  have HM := Lib.hid hm; clear hm
  go_enter Try.func122, Try.ntmps122
  go_wp2_with fail
  refine (c_copyBools o os _ O0.out (by have := HN12.out; omega)).mono ?_
  rintro e w1 ⟨v1, rfl, ho1, hb1⟩
  have R1 := Lib.hid (Row.below R0.out hb1); have B1 := Lib.hid (bst B0.out hb1 B0.out.size)
  have O1 : Hid (OwnBs w1 w.heap.size v1 os) := owns_mono ho1 (fun g hg => (by have := (owns_lt ho1 hg).1; have := B0.out.size; omega))
  clear ho1 hb1 R0 B0 O0
  have c0 := R1.out.cell 0
  have c1 := R1.out.cell 1
  have c2 := R1.out.cell 2
  have c3' := R1.out.cell 3
  have c4 := R1.out.cell 4
  rcases OwnBs.shape O1.out with ⟨hv1, hos⟩ | ⟨g, cp, hv1⟩
  · subst hv1
    have hn0 : n = 0 := by have := HOSL.out; rw [hos] at this; simpa using this.symm
    subst hn0
    have hbk := HBN.out rfl
    have hm0 : m = 0 := by have := HM.out; rw [hbk] at this; simpa using this.symm
    subst hm0
    have HRES : Hid (res = []) := by
      have hv0 : Vis h.f (h.r ++ flatTo h.f bk bk.length) os os := ⟨rfl, fun _ q => q, fun j hj => by
        exfalso
        rw [hbk] at hj
        simp [flatTo] at hj
        rcases HRI.out _ hj with q | q <;> omega, fun _ q => .inl q, fun _ q => .inl q⟩
      have := HKE.out os (by rw [← HM.out]; exact hv0)
      unfold Hid; rw [← this, hos]
    clear hbk hos HBN HKE
    go_wp2_with fail
    refine (c_reachMore0 (.slice fa 0 fc) b c c h.r _ (HR.out.below B1.out) HRL.out HRI.out).mono ?_
    rintro e w2 ⟨rfl, hb⟩
    have B2 := Lib.hid (bst B1.out hb B1.out.size)
    have R2 := Lib.hid (Row.below R1.out hb)
    clear hb c0 c1 c2 c3' c4
    have c4 := R2.out.cell 4
    go_wp2_with fail
    go_loopw [19] (fun i wr => i = .int .i64 0 ∧ Hid (Below w.heap.size w wr)) (fun _ _ => 0)
    case atStart => exact ⟨rfl, B2⟩
    case round =>
      obtain ⟨rfl, hb⟩ := hrel
      go_wp2_with fail
      go_ret
      exact ⟨_, rfl, by rw [HRES.out]; exact OwnBs.nil _ _, hb.out⟩
  rw [HOSL.out] at hv1
  subst hv1
  have HGW : Hid (w.heap.size ≤ g) := (owns_lt (g := g) O1.out rfl).1
  have HNE : Hid (¬ g = w.heap.size) := (owns_ne_rowA O1.out R1.out)
  go_wp2_with fail
  refine (CM.out g cp c h.r os _ HR.out HRL.out HRI.out B1.out HGW.out HOSL.out O1.out).mono ?_
  rintro e w2 ⟨rfl, S1, hv, ho, hg⟩
  have O2 := Lib.hid ho; have V2 := Lib.hid hv
  have R2 := Lib.hid (Row.grownBy R1.out hg (by intro q; cases q; exact HNE.out rfl))
  have B2 := Lib.hid (B1.out.grown hg B1.out.size (fun k' hk' => by cases hk'; exact HGW.out))
  clear hv ho hg c0 c1 c2 c3' c4 R1 B1 O1
  have c4 := R2.out.cell 4
  go_wp2_with fail
  clear c4
  go_loopw [19] (fun i wr => ∃ j : Nat, j ≤ m ∧ i = .int .i64 j ∧ ∃ S', Hid (Vis h.f (h.r ++ flatTo h.f bk j) os S') ∧ Hid (OwnBs wr w.heap.size (.slice (some ⟨g, 0, none⟩) n cp) S') ∧ Hid (Row wr w.heap.size 59 (a5 (.slice fa n fc) b c o (.slice ka m kc))) ∧ Hid (Below w.heap.size w wr)) (fun i _ => m - (intOf i).toNat)
  case atStart => exact ⟨0, Nat.zero_le _, rfl, S1, by unfold Hid; rw [flatTo_zero, List.append_nil]; exact V2.out, O2, R2, B2⟩
  case round =>
    obtain ⟨j, hj, rfl, S', hvis, ho, hr, hb⟩ := hrel
    have hm12 : m ≤ 12 := HB12.out
    by_cases hlt : j < m
    · obtain ⟨kb, ko, rfl, hck⟩ := (HK.out.below hb.out).at' (by omega)
      have q := hck j hlt
      have hjl : j < bk.length := by rw [HM.out]; exact hlt
      obtain ⟨hz0, hz1⟩ := HBI.out (bk.getD j 0) (mem_getD.2 ⟨j, hjl, rfl⟩)
      obtain ⟨t, htz⟩ : ∃ t : Nat, bk.getD j 0 = t := ⟨(bk.getD j 0).toNat, by omega⟩
      have htn : t < n := by omega
      have HFS : Hid (flatTo h.f bk (j + 1) = flatTo h.f bk j ++ h.f.getD t []) := by unfold Hid; rw [flatTo_succ hjl, htz]; simp
      rw [htz] at q
      obtain ⟨fb, fo, rfl, hcf⟩ := HF.out.at' (by omega)
      obtain ⟨u, quf, huf⟩ := hcf t htn
      have HU := Lib.hid huf
      have HUL := Lib.hid (HFL.out t htn)
      have HUR := Lib.hid (HFI.out t)
      obtain ⟨ua, uc, rfl⟩ := huf.shape
      have HVL : Hid (S'.length = os.length) := hvis.out.len
      have bd := below_drew hb.out
      have R3 := Lib.hid (show Row wr.drew _ _ _ from hr.out)
      have O3 := Lib.hid (show OwnBs wr.drew _ _ _ from OwnBs.below ho.out (below_drew (Below.refl wr.heap.size wr)))
      have B3 := Lib.hid bd
      have q3 := cellBelow bd (Nat.le_refl _) quf
      have QW := Lib.hid quf
      have i1 : (j : Int) < (m : Int) := by omega
      have t1 : (t : Int) < (n : Int) := by omega
      have t0 : (0 : Int) ≤ (t : Int) := by omega
      clear hck hcf quf huf bd hz0 hz1 htz hjl
      generalize hfs : h.f.getD t [] = fs at *
      have HFS2 := Lib.hid hfs; clear hfs
      generalize hul : fs.length = ul at *
      have HULL := Lib.hid hul; clear hul
      have c0 := hr.out.cell 0
      have c1 := hr.out.cell 1
      have c2 := hr.out.cell 2
      go_wp2_with fail
      clear q c0 c1 c2
      refine wp_region_held_drew (S := (fun w' => w'.cell? ⟨w.heap.size, 0, none⟩ = some (.slice (some ⟨fb, fo, none⟩) n fc) ∧ w'.cell? ⟨w.heap.size, 1, none⟩ = some b ∧ w'.cell? ⟨w.heap.size, 2, none⟩ = some c ∧ w'.cell? ⟨fb, fo + t, none⟩ = some (.slice ua ul uc))) (by kernel_rfl) (⟨Row.cell R3.out 0, Row.cell R3.out 1, Row.cell R3.out 2, q3⟩) (fun hHeld => ?_)
      generalize wr.drew = x1 at *
      refine wpAnyH_take (i := 0) (v := ?va0x1) rfl (by kernel_rfl) (by kernel_rfl) (by kernel_rfl) (fun _ _ _ h => h) (Or.inl ⟨by rfl, ?hy0x1⟩) (by assumption) ?rest0x1
      case hy0x1 => (intro w hSw; (try dsimp only at hSw); go_simp; try with_reducible rfl)
      (try simp only [Act.put, List.getElem_toArray, List.getElem_cons_zero, List.setIfInBounds_toArray, List.set_cons_zero, List.set_cons_succ])
      refine wpAnyH_take (i := 1) (v := ?va1x2) rfl (by kernel_rfl) (by kernel_rfl) (by kernel_rfl) (fun _ _ _ h => h) (Or.inl ⟨by rfl, ?hy1x2⟩) (by assumption) ?rest1x2
      case hy1x2 => (intro w hSw; (try dsimp only at hSw); go_simp; try with_reducible rfl)
      (try simp only [Act.put, List.getElem_toArray, List.getElem_cons_zero, List.getElem_cons_succ, List.setIfInBounds_toArray, List.set_cons_zero, List.set_cons_succ])
      refine wpAnyH_take (i := 2) (v := ?va2x3) rfl (by kernel_rfl) (by kernel_rfl) (by kernel_rfl) (fun _ _ _ h => h) (Or.inl ⟨by rfl, ?hy2x3⟩) (by assumption) ?rest2x3
      case hy2x3 => (intro w hSw; (try dsimp only at hSw); go_simp; try with_reducible rfl)
      (try simp only [Act.put, List.getElem_toArray, List.getElem_cons_zero, List.getElem_cons_succ, List.setIfInBounds_toArray, List.set_cons_zero, List.set_cons_succ])
      refine wpAnyH_take (i := 3) (v := ?va3x4) rfl (by kernel_rfl) (by kernel_rfl) (by kernel_rfl) (fun _ _ _ h => h) (Or.inl ⟨by rfl, ?hy3x4⟩) (by assumption) ?rest3x4
      case hy3x4 => (intro w hSw; (try dsimp only at hSw); go_simp; try with_reducible rfl)
      (try simp only [Act.put, List.getElem_toArray, List.getElem_cons_zero, List.getElem_cons_succ, List.setIfInBounds_toArray, List.set_cons_zero, List.set_cons_succ])
      refine wpAnyH_take (i := 4) (v := ?va4x5) rfl (by kernel_rfl) (by kernel_rfl) (by kernel_rfl) (fun _ _ _ h => h) (Or.inl ⟨by rfl, ?hy4x5⟩) (by assumption) ?rest4x5
      case hy4x5 => (intro w hSw; (try dsimp only at hSw); go_simp; try with_reducible rfl)
      (try simp only [Act.put, List.getElem_toArray, List.getElem_cons_zero, List.getElem_cons_succ, List.setIfInBounds_toArray, List.set_cons_zero, List.set_cons_succ])
      refine wpAnyH_take (i := 5) (v := ?va5x6) rfl (by kernel_rfl) (by kernel_rfl) (by kernel_rfl) (fun _ _ _ h => h) (Or.inl ⟨by rfl, ?hy5x6⟩) (by assumption) ?rest5x6
      case hy5x6 => (intro w hSw; (try dsimp only at hSw); go_simp; try with_reducible rfl)
      (try simp only [Act.put, List.getElem_toArray, List.getElem_cons_zero, List.getElem_cons_succ, List.setIfInBounds_toArray, List.set_cons_zero, List.set_cons_succ])
      refine wpAnyH_take (i := 6) (v := ?va6x7) rfl (by kernel_rfl) (by kernel_rfl) (by kernel_rfl) (fun _ _ _ h => h) (Or.inl ⟨by rfl, ?hy6x7⟩) (by assumption) ?rest6x7
      case hy6x7 => (intro w hSw; (try dsimp only at hSw); go_simp; try with_reducible rfl)
      (try simp only [Act.put, List.getElem_toArray, List.getElem_cons_zero, List.getElem_cons_succ, List.setIfInBounds_toArray, List.set_cons_zero, List.set_cons_succ])
      refine wpAnyH_take (i := 7) (v := ?va7x8) rfl (by kernel_rfl) (by kernel_rfl) (by kernel_rfl) (fun _ _ _ h => h) (Or.inl ⟨by rfl, ?hy7x8⟩) (by assumption) ?rest7x8
      case hy7x8 => (intro w hSw; (try dsimp only at hSw); go_simp; try with_reducible rfl)
      (try simp only [Act.put, List.getElem_toArray, List.getElem_cons_zero, List.getElem_cons_succ, List.setIfInBounds_toArray, List.set_cons_zero, List.set_cons_succ])
      refine wpAnyH_take (i := 8) (v := ?va8x9) rfl (by kernel_rfl) (by kernel_rfl) (by kernel_rfl) (fun _ _ _ h => h) (Or.inl ⟨by rfl, ?hy8x9⟩) (by assumption) ?rest8x9
      case hy8x9 => (intro w hSw; (try dsimp only at hSw); go_simp; try with_reducible rfl)
      (try simp only [Act.put, List.getElem_toArray, List.getElem_cons_zero, List.getElem_cons_succ, List.setIfInBounds_toArray, List.set_cons_zero, List.set_cons_succ])
      refine wpAnyH_ready (rs := [9]) (by kernel_rfl) (by simp) ?_
      refine AllReadyH.cons rfl (fun K hK => ?_) AllReadyH.nil
      go_simp
      refine (CM.out g cp (.slice ua ul uc) fs S' _ HU.out (by rw [HULL.out]; exact HUL.out) HUR.out B3.out HGW.out (by rw [HVL.out, HOSL.out]) O3.out).mono ?_
      rintro e x2 ⟨rfl, S2, hv2, ho2, hg2⟩
      have V2 := Lib.hid (Vis.append hvis.out hv2)
      have O4 := Lib.hid ho2
      have hne : ¬ (some g : Option Nat) = some w.heap.size := by intro q; cases q; exact HNE.out rfl
      have R4 := Lib.hid (Row.grownBy R3.out hg2 (by intro q; exact hne q))
      have B4 := Lib.hid (B3.out.grown hg2 B3.out.size (fun k' hk' => by cases hk'; exact HGW.out))
      have q4 := cellBelow B4.out (Nat.le_refl _) QW.out
      refine hK.out _ _ (⟨Row.cell R4.out 0, Row.cell R4.out 1, Row.cell R4.out 2, q4⟩) (fun hHeld => ?_)
      clear hK K hv2 ho2 hg2 q3 q4 hne
      (try simp only [Act.put, List.getElem_toArray, List.getElem_cons_zero, List.getElem_cons_succ, List.setIfInBounds_toArray, List.set_cons_zero, List.set_cons_succ])
      refine wpAnyH_done (by kernel_rfl) ?_ _
      clear hHeld
      have V3 : Hid (Vis h.f (h.r ++ flatTo h.f bk (j + 1)) os S2) := by unfold Hid; rw [HFS.out, ← List.append_assoc]; exact V2.out
      clear V2
      go_wp2_with fail
      go_roundw
      case rel => exact ⟨j + 1, by omega, by go_num, S2, V3, O4, R4, B4⟩
      case measure => simp [intOf]; omega
    · obtain rfl : j = m := by omega
      have HE := Lib.hid (HKE.out S' (by first | exact hvis.out | (rw [HM.out]; exact hvis.out)))
      go_wp2_with fail
      go_ret
      exact ⟨_, rfl, by rw [← HE.out]; exact ho.out, hb.out⟩
end Go.Proofs.Ytbmfkgfmibpkjaa
namespace Go.Proofs.Ytbmfkgfmibpkjaa
open Go.RowKit Ph
theorem endB_no9 {w w' : World} {bs : List Bool} {ok : Bool} (hb : Below w.heap.size w w') (h1 : bs = []) (h2 : ok = false) : EndB bs ok w (.returned (.tuple #[.slice none 0 0, .bool false])) w' := by
  subst h1; subst h2
  exact ⟨_, rfl, OwnH.nil w' _ _, hb⟩
theorem endB_yes9 {w w' : World} {bs bs' : List Bool} {ok : Bool} {v : Value} (hb : Below w.heap.size w w') (ho : OwnBs w' w.heap.size v bs') (h1 : bs = bs') (h2 : ok = true) : EndB bs ok w (.returned (.tuple #[v, .bool true])) w' := by
  subst h1; subst h2
  exact ⟨_, rfl, OwnH.ofBools ho hb.size, hb⟩
theorem ownBs_mono {w : World} {B B' : Nat} {v : Value} {bs : List Bool} (h : OwnBs w B v bs) (hB : B' ≤ B) : OwnBs w B' v bs := owns_mono h fun g hg => by have := (owns_lt h hg).1; omega
set_option maxHeartbeats 3200000 in
set_option maxRecDepth 100000 in
theorem c_MinorKeeps (a b c o k : Value) (h : H) (os : List Bool) (bk : List Int) (w : World) (hA : HeapAt w a b c h) (hO : BoolsAt w o os) (hK : IntsAt w k bk) (hkm : bk.length ≤ 1048576) : Calls Try.prog 64 #[av a b c o k] w (EndB (keptR9 h os bk) (agesB h os bk) w) := by
  have b0 := below1 w (.cells (a5 a b c o k) 59)
  have A0 := Lib.hid (hA.below b0); have O0 := Lib.hid (hO.below b0); have K0 := Lib.hid (hK.below b0)
  have B0 := Lib.hid b0
  have R0 := Lib.hid (Row.new w 59 (a5 a b c o k))
  have HC := Lib.hid (c_GoodAges a b c o k h os bk _ A0.out O0.out K0.out hkm)
  have GG := Lib.hid (agesB_iff (h := h) (os := os) (bk := bk)).1
  have HR : Hid (keptR9 h os bk = if agesB h os bk = true then keptA h os bk else []) := rfl
  clear hA hO hK b0 hkm
  generalize keptR9 h os bk = res at *
  generalize hag : agesB h os bk = ag at *
  clear hag
  go_enter Try.func64, Try.ntmps64
  go_wp2_with fail
  refine HC.out.mono ?_
  rintro e w1 ⟨rfl, hb⟩
  replace A0 := Lib.hid (A0.out.below hb); replace O0 := Lib.hid (O0.out.below hb); replace K0 := Lib.hid (K0.out.below hb)
  replace R0 := Lib.hid (Row.below R0.out hb); replace B0 := Lib.hid (bst B0.out hb B0.out.size)
  clear hb HC
  cases ag
  · have HE : Hid (res = []) := by unfold Hid; rw [HR.out]; rfl
    go_wp2_with fail
    go_ret2
    exact endB_no9 B0.out HE.out rfl
  have Q := Lib.hid (GG.out rfl)
  have HE : Hid (res = keptA h os bk) := by unfold Hid; rw [HR.out]; rfl
  have c0 := R0.out.cell 0
  have c1 := R0.out.cell 1
  have c2 := R0.out.cell 2
  have c3' := R0.out.cell 3
  have c4 := R0.out.cell 4
  go_wp2_with fail
  refine (c_minorKept _ _ _ _ _ h os bk _ A0.out O0.out K0.out Q.out).mono ?_
  rintro e w2 ⟨v, rfl, ho, hb⟩
  have O2 := Lib.hid (ownBs_mono ho B0.out.size); have B2 := Lib.hid (bst B0.out hb B0.out.size)
  clear ho hb c0 c1 c2 c3' c4
  go_wp2_with fail
  go_ret2
  exact endB_yes9 B2.out O2.out HE.out rfl
end Go.Proofs.Ytbmfkgfmibpkjaa
