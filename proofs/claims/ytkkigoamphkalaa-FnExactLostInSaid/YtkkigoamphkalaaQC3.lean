/- What the laws rest on, part 3. -/
import Derived.Test.YtkkigoamphkalaaQC2
import Derived.Test.YtkkigoamphkalaaRows
import Derived.Lib.SmallJoins
import Derived.WalkKit
import Derived.ProofKit
import Derived.OpenShut
import Derived.WalkSmall
import Derived.Deep.DeepHandedRow
import Derived.Lib.LaidTab
import Derived.Deep.Matrix
import Derived.Deep.Grids
namespace Go.Proofs.Ytkkigoamphkalaa
open Go.RowKit Ph

theorem shlR_no {h : H} {cs : List Int} (k : bothB h cs = false) : shlR h cs = [] ∧ ((shlM h cs : Nat) : Int) = 0 := by
  have e : shlM h cs = 0 := by unfold shlM; exact if_neg (by rw [k]; decide)
  exact ⟨by unfold shlR; exact if_neg (by rw [k]; decide), by rw [e]; rfl⟩
theorem shlR_yes {h : H} {cs : List Int} (k : bothB h cs = true) : ∀ cs' n, Sk h cs cs' n → lostL h cs' = [] → shlR h cs = cs' ∧ shlM h cs = n := fun _ _ s q => s.done k q
theorem ne_rowI8 {w : World} {B g : Nat} {T : TypeId} {v : Value} {cs : List Int} {ds : Array Value} (ho : Own w B v cs) (hr : Row w g T ds) (hT : T ≠ 3) : v.ownBlock ≠ some g := by
  intro hg
  rcases ho.2 with ⟨rfl, _⟩ | ⟨g2, cap, cur, rfl, _, h2, _⟩
  · cases hg
  · cases hg
    unfold Row at hr
    rw [h2] at hr
    simp only [Option.some.injEq, Obj.cells.injEq] at hr
    exact hT hr.2.1.symm
abbrev mk8 (v : Value) : Array Value := c5 (.slice none 0 0) (.slice none 0 0) (.slice none 0 0) v .nilFunc
/-- What is the call's own, and what it reads. -/
structure ShW (w1 wr : World) (gM : Nat) (v : Value) (cs : List Int) : Prop where
  own : Own wr w1.heap.size v cs
  m : Row wr gM 113 (mk8 v)
  low : Below w1.heap.size w1 wr
theorem ShW.below {w1 wr w' : World} {gM : Nat} {v : Value} {cs : List Int} (k : ShW w1 wr gM v cs) (hb : Below wr.heap.size wr w') : ShW w1 w' gM v cs := ⟨k.own.below hb, Row.below k.m hb, bst k.low hb k.low.size⟩
theorem ShW.set {w1 wr w' : World} {gM : Nat} {v : Value} {cs cs' : List Int} (k : ShW w1 wr gM v cs) (ho : Own w' w1.heap.size v cs') (hg : wr.grownBy w' v.ownBlock) : ShW w1 w' gM v cs' := ⟨ho, Row.grownBy k.m hg (ne_rowI8 k.own k.m (by decide)), k.low.grown hg k.low.size (fun g e => (owns_lt k.own e).1)⟩
/-- A list in a block behind the colours'. -/
def LoO (w : World) (v t : Value) (zs : List Int) : Prop := ∃ B, Own w B t zs ∧ ∀ g, v.ownBlock = some g → g < B
theorem LoO.ints {w : World} {v t : Value} {zs : List Int} (k : LoO w v t zs) : IntsAt w t zs := by obtain ⟨B, k, _⟩ := k; exact k.ints
theorem LoO.first {w : World} {v : Value} {p : Option Addr} {n q : Nat} {zs : List Int} (k : LoO w v (.slice p n q) zs) (h0 : 0 < zs.length) : ∃ tb, p = some ⟨tb, 0, none⟩ ∧ v.ownBlock ≠ some tb := by
  obtain ⟨B, k, hB⟩ := k
  rcases k.shape' with ⟨_, q⟩ | ⟨g, c, e⟩
  · rw [q] at h0; simp at h0
  · cases e
    exact ⟨g, rfl, fun e => by have := hB g e; have q : B ≤ g := (owns_lt k rfl).1; omega⟩
theorem shl1_nat {h : H} {cs : List Int} {k : Nat} {zs : List Int} (e : lostL h cs = zs) (h0 : 0 < zs.length) (hk : zs.getD 0 0 = (k : Int)) : shl1 h cs = shade cs (k : Int) := by
  unfold shl1
  rw [e, ← hk]
  cases zs with
  | nil => simp at h0
  | cons z zs => rfl
set_option maxRecDepth 100000 in
set_option maxHeartbeats 6400000 in
theorem c_ShadeLost (a b c v : Value) (h : H) (cs : List Int) (w : World) (hA : HeapAt w a b c h) (hz : IntsAt w v cs) : Calls Try.prog 37 #[hv a b c, v] w (EndII (shlR h cs) (shlM h cs : Int) (bothB h cs) w) := by
  have hb0 := below1 w (.cells (c3 a b c) 30)
  have A0 := Lib.hid (hA.below hb0)
  have Z0 := Lib.hid (hz.below hb0)
  have HB := Lib.hid hb0
  have R0 := Lib.hid (show RowH _ _ a b c from Row.new w 30 (c3 a b c))
  clear hA hb0
  have HC := Lib.hid (c_areColoursOf a b c v h cs _ A0.out Z0.out)
  have HE1 := Lib.hid (shlR_no (h := h) (cs := cs))
  have HE2 := Lib.hid (shlR_yes (h := h) (cs := cs))
  have HBB := Lib.hid (bothB_iff (h := h) (cs := cs)).1
  skip
  obtain ⟨va, vc, rfl⟩ := hz.shape
  clear hz
  generalize hx : bothB h cs = x at *
  have HX := Lib.hid hx; clear hx
  have c0 := R0.out.c0
  have c1 := R0.out.c1
  have c2 := R0.out.c2
  cases x
  · obtain ⟨HR1, HR2⟩ := HE1.out rfl
    have HR1 := Lib.hid HR1; have HR2 := Lib.hid HR2
    go_enter Try.func37, Try.ntmps37
    go_wp2_with (go_at_call 101; refine HC.out.mono ?_; rintro e w1 ⟨rfl, hb1⟩; have B1 := Lib.hid (bst HB.out hb1 HB.out.size); clear hb1)
    go_ret3
    exact endII_no B1.out HR1.out HR2.out rfl
  have HDN := Lib.hid (HE2.out rfl)
  obtain ⟨hG, hlen, hcol⟩ := HBB.out rfl
  have HG := Lib.hid hG
  have HS0 := Lib.hid (Sk.start hlen hcol)
  have HM12 : Hid (cs.length ≤ 12) := by have := hG.n; unfold Hid; omega
  clear hG hcol HBB hlen HE1 HE2
  generalize shlR h cs = g1 at *
  generalize shlM h cs = g2 at *
  go_enter Try.func37, Try.ntmps37
  go_wp2_with (go_at_call 101; refine HC.out.mono ?_; rintro e w1 ⟨rfl, hb1⟩; have B1 := Lib.hid (bst HB.out hb1 HB.out.size); have Z1 := Lib.hid (Z0.out.below hb1); have A1 := Lib.hid (A0.out.below hb1); have R1 := Lib.hid (R0.out.below hb1); have d0 := R1.out.c0; have d1 := R1.out.c1; have d2 := R1.out.c2; clear hb1)
  refine (c_copyInts _ cs _ Z1.out (by have := HM12.out; omega)).mono ?_
  rintro e w2 ⟨v2, rfl, ho2, hb2⟩
  obtain ⟨pn, qn, rfl⟩ := ho2.ints.shape
  have hba := below1 w2 (.cells (mk8 (.slice pn cs.length qn)) 113)
  have W3 : Hid (ShW w1 (w2.alloc (.cells (mk8 (.slice pn cs.length qn)) 113)) w2.heap.size (.slice pn cs.length qn) cs) := ⟨ho2.below hba, Row.new w2 113 (mk8 (.slice pn cs.length qn)), bst hb2 hba hb2.size⟩
  have A3 := Lib.hid (A1.out.below W3.out.low)
  have R3 := Lib.hid (R1.out.below W3.out.low)
  have BS := Lib.hid B1.out.size
  clear ho2 hb2 hba d0 d1 d2 c0 c1 c2
  have d0 := R3.out.c0
  have d1 := R3.out.c1
  have d2 := R3.out.c2
  have m3 := Row.cell W3.out.m 3
  generalize hn : cs.length = n at *
  have HN := Lib.hid hn; clear hn
  go_wp2_with fail
  have HCL : Hid (cs.length = h.f.length) := HS0.out.l0
  refine (c_lostIn _ _ _ _ h cs _ A3.out HG.out W3.out.own.ints HCL.out).mono ?_
  rintro e w4 ⟨v4, rfl, ho4, hb4⟩
  have W4 := Lib.hid (W3.out.below hb4)
  have T4 : Hid (LoO _ (.slice pn n qn) v4 _) := ⟨_, ho4, fun g e => (owns_lt W3.out.own e).2⟩
  clear ho4 hb4 d0 d1 d2 m3 W3 A3 R3
  generalize w2.heap.size = gM at *
  go_wp2_with fail
  go_loopg [8, 9] 12 (fun k s t wr => ∃ (j : Nat) (ds : List Int), k + j = 12 ∧ s = .int .i64 j ∧ Hid (Sk h cs ds j) ∧ Hid (ShW w1 wr gM (.slice pn n qn) ds) ∧ Hid (LoO wr (.slice pn n qn) t (lostL h ds)))
  case atStart => exact ⟨0, cs, rfl, rfl, HS0, W4, T4⟩
  case round =>
    obtain ⟨j, ds, hkj, rfl, hsk, hw, ht⟩ := hrel
    have hdl : Hid (ds.length = h.f.length) := hsk.out.len
    have HML : Hid (∀ z ∈ lostL h ds, ∃ k : Nat, k < h.f.length ∧ z = (k : Int)) := fun z hz => by obtain ⟨i, q1, _, _, _, q2⟩ := (mem_lostL hdl.out).1 hz; exact ⟨i, q1, q2⟩
    have HX : Hid (∀ k : Nat, 0 < (lostL h ds).length → (lostL h ds).getD 0 0 = (k : Int) → shl1 h ds = shade ds (k : Int)) := fun k q1 q2 => shl1_nat rfl q1 q2
    have HST := Lib.hid hsk.out.step
    have HFI := Lib.hid (HDN.out ds j hsk.out)
    obtain ⟨ta, tc, rfl⟩ := ht.out.ints.shape
    generalize lostL h ds = ts at *
    generalize hq : ts.length = q at *
    have HQ := Lib.hid hq; clear hq
    have m0 := Row.cell hw.out.m 0
    have m1 := Row.cell hw.out.m 1
    have m2 := Row.cell hw.out.m 2
    have m3 := Row.cell hw.out.m 3
    have m4 := Row.cell hw.out.m 4
    by_cases hq0 : q = 0
    · subst hq0
      obtain ⟨HR1, HR2⟩ := HFI.out (List.eq_nil_of_length_eq_zero HQ.out)
      have HR1 := Lib.hid HR1; have HR2 := Lib.hid HR2
      have B9 := Lib.hid (bst B1.out hw.out.low B1.out.size)
      go_wp2_with fail
      go_ret3
      exact endII_yes B9.out hw.out.own BS.out HR1.out (by rw [HR2.out]) rfl
    · have q1 : (0 : Int) < (q : Int) := by omega
      have hq1 : 0 < ts.length := by rw [HQ.out]; omega
      obtain ⟨k, hk1, hk5⟩ := HML.out _ (getD_memI hq1)
      obtain ⟨tb, rfl, htb⟩ := ht.out.first hq1
      have HTB := Lib.hid htb; clear htb
      obtain ⟨tb', to, etb, hct⟩ := ht.out.ints.at' (by omega)
      cases etb
      have qt := hct 0 (by omega)
      rw [hk5] at qt
      simp only [Nat.add_zero] at qt
      have HE := Lib.hid (HX.out k (by omega) hk5)
      have HKL : Hid (k < ds.length) := by unfold Hid; rw [hdl.out]; exact hk1
      have SK1 : Hid (Sk h cs (shl1 h ds) (j + 1)) := HST.out (List.length_pos_iff.1 hq1)
      have hj12 : j + 1 ≤ 12 := by have := SK1.out.le; have := HG.out.n; omega
      have HCD : Hid (Col ds) := hsk.out.col
      clear hct hk1 hk5 hq1 HX HML HST HFI
      go_wp2_with fail
      have WD := Lib.hid (hw.out.below (below_drew (Below.refl wr.heap.size wr)))
      have e0 := Row.cell WD.out.m 0
      have e1 := Row.cell WD.out.m 1
      have e2 := Row.cell WD.out.m 2
      have e3 := Row.cell WD.out.m 3
      have e4 := Row.cell WD.out.m 4
      have et : wr.drew.cell? ⟨tb, 0, none⟩ = some (.int .i64 (k : Int)) := qt
      clear m0 m1 m2 m3 m4 qt
      refine wp_region_held_drew (S := (fun w' => w'.cell? ⟨gM, 0, none⟩ = some (.slice none 0 0) ∧ w'.cell? ⟨gM, 1, none⟩ = some (.slice none 0 0) ∧ w'.cell? ⟨gM, 2, none⟩ = some (.slice none 0 0) ∧ w'.cell? ⟨gM, 3, none⟩ = some (.slice pn n qn) ∧ w'.cell? ⟨gM, 4, none⟩ = some .nilFunc ∧ w'.cell? ⟨tb, 0, none⟩ = some (.int .i64 (k : Int)))) (by kernel_rfl) (⟨e0, e1, e2, e3, e4, et⟩) (fun hHeld => ?_)
      generalize wr.drew = x1 at *
      refine wpAnyH_take (i := 0) (v := ?va0x1) rfl (by kernel_rfl) (by kernel_rfl) (by kernel_rfl) (fun _ _ _ h => h) (Or.inl ⟨by rfl, ?hy0x1⟩) (by assumption) ?rest0x1
      case hy0x1 => (intro w hSw; (try dsimp only at hSw); go_simp; try with_reducible rfl)
      (try simp only [Act.put, List.getElem_toArray, List.getElem_cons_zero, List.setIfInBounds_toArray, List.set_cons_zero, List.set_cons_succ])
      refine wpAnyH_take (i := 1) (v := ?va1x2) rfl (by kernel_rfl) (by kernel_rfl) (by kernel_rfl) (fun _ _ _ h => h) (Or.inl ⟨by rfl, ?hy1x2⟩) (by assumption) ?rest1x2
      case hy1x2 => (intro w hSw; (try dsimp only at hSw); go_simp; try with_reducible rfl)
      (try simp only [Act.put, List.getElem_toArray, List.getElem_cons_zero, List.getElem_cons_succ, List.setIfInBounds_toArray, List.set_cons_zero, List.set_cons_succ])
      refine wpAnyH_take (i := 2) (v := ?va2x3) rfl (by kernel_rfl) (by kernel_rfl) (by kernel_rfl) (fun _ _ _ h => h) (Or.inl ⟨by rfl, ?hy2x3⟩) (by assumption) ?rest2x3
      case hy2x3 => (intro w hSw; (try dsimp only at hSw); go_simp; try with_reducible rfl)
      (try simp only [Act.put, List.getElem_toArray, List.getElem_cons_zero, List.getElem_cons_succ, List.setIfInBounds_toArray, List.set_cons_zero, List.set_cons_succ])
      refine wpAnyH_take (i := 3) (v := ?va3x4) rfl (by kernel_rfl) (by kernel_rfl) (by kernel_rfl) (fun _ _ _ h => h) (Or.inl ⟨by rfl, ?hy3x4⟩) (by assumption) ?rest3x4
      case hy3x4 => (intro w hSw; (try dsimp only at hSw); go_simp; try with_reducible rfl)
      (try simp only [Act.put, List.getElem_toArray, List.getElem_cons_zero, List.getElem_cons_succ, List.setIfInBounds_toArray, List.set_cons_zero, List.set_cons_succ])
      refine wpAnyH_ready (rs := [4]) (by kernel_rfl) (by simp) ?_
      refine AllReadyH.cons rfl (fun K hK => ?_) AllReadyH.nil
      go_simp
      refine (c_darkenG _ _ _ _ (.slice pn n qn) ds k _ _ WD.out.own HKL.out HCD.out).mono ?_
      rintro e w6 ⟨rfl, ho6, hg6⟩
      rw [← HE.out] at ho6
      have W6 := Lib.hid (WD.out.set ho6 hg6)
      have et6 : w6.cell? ⟨tb, 0, none⟩ = some (.int .i64 (k : Int)) := (by have hb := hg6.block tb (block_lt_of_cell et) (fun e => HTB.out e.symm); rw [World.cell?, hb]; exact et)
      clear ho6 hg6
      refine hK.out _ _ (⟨Row.cell W6.out.m 0, Row.cell W6.out.m 1, Row.cell W6.out.m 2, Row.cell W6.out.m 3, Row.cell W6.out.m 4, et6⟩) (fun hHeld => ?_)
      clear hK K
      (try simp only [Act.put, List.getElem_toArray, List.getElem_cons_zero, List.getElem_cons_succ, List.setIfInBounds_toArray, List.set_cons_zero, List.set_cons_succ])
      refine wpAnyH_done (by kernel_rfl) ?_ _
      clear hHeld e0 e1 e2 e3 e4 et et6 WD
      have A6 := Lib.hid (A1.out.below W6.out.low)
      have R6 := Lib.hid (R1.out.below W6.out.low)
      have d0 := R6.out.c0
      have d1 := R6.out.c1
      have d2 := R6.out.c2
      have m3 := Row.cell W6.out.m 3
      have HL6 : Hid ((shl1 h ds).length = h.f.length) := SK1.out.len
      have HN6 : Hid ((shl1 h ds).length = n) := by unfold Hid; rw [shl1_len, hdl.out, ← HS0.out.l0, HN.out]
      go_wp2_with fail
      refine (c_lostIn _ _ _ _ h (shl1 h ds) _ A6.out HG.out W6.out.own.ints HL6.out).mono ?_
      rintro e w7 ⟨v7, rfl, ho7, hb7⟩
      have W7 := Lib.hid (W6.out.below hb7)
      have T7 : Hid (LoO _ (.slice pn n qn) v7 _) := ⟨_, ho7, fun g e => (owns_lt W6.out.own e).2⟩
      clear ho7 hb7 d0 d1 d2 m3 W6 A6 R6
      go_wp2_with fail
      go_roundg (12 - (j + 1))
      case measure => omega
      case rel => exact ⟨j + 1, _, by omega, by go_num, SK1, W7, T7⟩
end Go.Proofs.Ytkkigoamphkalaa
namespace Go.Proofs.Ytkkigoamphkalaa
open Go.RowKit Ph

theorem ints_one (w : World) (x : Int) : IntsAt (w.alloc (.cells #[.int .i64 x] 3)) (.slice (some ⟨w.heap.size, 0, none⟩) 1 1) [x] :=
  ⟨some ⟨w.heap.size, 0, none⟩, 1, rfl, fun _ => ⟨w.heap.size, 0, rfl, fun i hi => by
    have hi0 : i = 0 := by simp at hi; omega
    subst hi0
    exact Row.cell (Row.new w 3 #[.int .i64 x]) 0⟩⟩
/-- The reference's search under way. -/
structure GqW (w wr : World) (gO n b off cap : Nat) (a b' c : Value) (zq : List Int) (S : List Bool) : Prop where
  own : OwnBs wr w.heap.size (.slice (some ⟨gO, 0, none⟩) n n) S
  que : Que wr (gO + 1) b off cap zq
  h : RowH wr w.heap.size a b' c
  low : Below w.heap.size w wr
  at' : w.heap.size < gO
theorem GqW.store {w wr : World} {gO n b off cap : Nat} {a b' c : Value} {zq : List Int} {S : List Bool} (k : GqW w wr gO n b off cap a b' c zq S) (hS : S.length = n) {t : Nat} (ht : t < n) : GqW w (wr.setCell ⟨gO, t, none⟩ (.bool true)) gO n b off cap a b' c zq (S.set t true) := by
  obtain ⟨s1, s2, s3, s4⟩ := k.own.stored hS ht true
  have := k.at'; have := k.que.lo
  exact ⟨s1, k.que.kept s2.size (s2.block b k.que.lt (by simp; omega)), Row.grownBy k.h s2 (by simp; omega), k.low.setCell (p := ⟨gO, t, none⟩) (by simp only; omega) (.bool true), k.at'⟩
theorem GqW.alloc {w wr : World} {gO n b off cap : Nat} {a b' c : Value} {zq : List Int} {S : List Bool} (k : GqW w wr gO n b off cap a b' c zq S) (x : Int) : GqW w (wr.alloc (.cells #[.int .i64 x] 3)) gO n b off cap a b' c zq S :=
  have hb := below1 wr (.cells #[.int .i64 x] 3)
  ⟨k.own.below hb, k.que.kept hb.size (hb.block b k.que.lt), k.h.below hb, bst k.low hb k.low.size, k.at'⟩
theorem GqW.app {w wr w' : World} {gO n b off cap b2 o2 k2 : Nat} {a b' c : Value} {zq zq' : List Int} {S : List Bool} (k : GqW w wr gO n b off cap a b' c zq S) (hq : Que w' (gO + 1) b2 o2 k2 zq') (hg : wr.grownBy w' (some b)) : GqW w w' gO n b2 o2 k2 a b' c zq' S := by
  have := k.at'; have := k.que.lo
  exact ⟨owns_block k.own (fun g h => hg.block g (owns_lt k.own h).2 (by cases h; simp; omega)), hq, Row.grownBy k.h hg (by simp; omega), k.low.grown hg k.low.size (fun j hj => by cases hj; omega), k.at'⟩
theorem GqW.tail {w wr : World} {gO n b off cap : Nat} {a b' c : Value} {z : Int} {zq : List Int} {S : List Bool} (k : GqW w wr gO n b off cap a b' c (z :: zq) S) : GqW w wr gO n b (off + 1) (cap - 1) a b' c zq S := ⟨k.own, k.que.tail, k.h, k.low, k.at'⟩
theorem GqW.tail0 {w wr : World} {gO n b off cap : Nat} {a b' c : Value} {z : Int} {zq : List Int} {S : List Bool} (k : GqW w wr gO n b off cap a b' c (z :: zq) S) (h1 : cap = 1) : GqW w wr gO n b off (cap - 1) a b' c zq S := ⟨k.own, k.que.tail0 h1, k.h, k.low, k.at'⟩
set_option maxRecDepth 100000 in
set_option maxHeartbeats 12800000 in
theorem s_l8Guarded (a b' c v : Value) (h : H) (cs : List Int) (w : World) (hA : HeapAt w a b' c h) (hG : Ph.Good h) (hz : IntsAt w v cs) (hl : cs.length = h.f.length) :
    Calls Try.prog 145 #[hv a b' c, v] w fun e w' => ∃ v', e = .returned v' ∧ OwnBs w' w.heap.size v' (grdL h.f cs) ∧ Below w.heap.size w w' := by
  obtain ⟨i0, hi, hz0, hz1, hz2⟩ := info_parts info_boolz
  have hn1 := hG.n
  obtain ⟨fa, fc, rfl⟩ := hA.f.shape
  obtain ⟨va, vc, hv⟩ := hz.shape
  rw [hl] at hv
  subst hv
  have HCL := Lib.hid hl
  have HF := Lib.hid hA.f; have HZ := Lib.hid hz
  have HRL : Hid (∀ k, (h.f.getD k []).length ≤ 12) := fun k => by
    by_cases q : k < h.f.length
    · have := (hG.row k q).1; omega
    · simp [List.getD, List.getElem?_eq_none (Nat.le_of_not_lt q)]
  have HR : Hid (∀ k, ∀ z ∈ h.f.getD k [], inR h.f.length z) := fun k z hz => (hG.field hz).imp id (fun h => ⟨h.1, h.2.1⟩)
  have HS0 : Hid (Gq h.f cs (ofC cs 1) (List.replicate h.f.length false)) := by rw [← hl]; exact Gq.start
  have HOL : Hid ((ofC cs 1).length ≤ 12) := Nat.le_trans (ofTo_len _ _ _) (by rw [hl]; exact hn1)
  clear hA hG hz
  clear hl
  generalize hn : h.f.length = n at *
  have HN := Lib.hid hn; clear hn
  have hb0 := Lib.hid (below1 w (.cells (c3 (.slice fa n fc) b' c) 30))
  have R0 := Lib.hid (show RowH _ _ (.slice fa n fc) b' c from Row.new w 30 (c3 (.slice fa n fc) b' c))
  go_enter Try.func145, Try.ntmps145
  go_wp2_with (at_make; refine wpList_make_full _ rfl _ _ 23 rfl w.heap.size 4 i0 (.bool false) 1 Try.underlying23 hi hz0 hz1 .i64 .i64 _ _ n rfl rfl rfl rfl (by rw [hz2]; omega) (by unfold maxLen; omega) (by simp) ?_; intro w1 hown hgr
               rw [rep_bools] at hown
               have hsz0 : (w.alloc (.cells (c3 (.slice fa n fc) b' c) 30)).heap.size = w.heap.size + 1 := by simp
               rw [hsz0] at hown
               have o1 : OwnBs w1 w.heap.size (.slice (some ⟨w.heap.size + 1, 0, none⟩) n n) (List.replicate n false) := by unfold OwnBs; rw [List.length_replicate]; exact hown
               have b1 := hb0.out.grown hgr hb0.out.size (fun k hk => by cases hk)
               have O1 := Lib.hid o1; have B1 := Lib.hid b1; have R1 := Lib.hid (Row.grown R0.out hgr)
               clear hown hgr hsz0 o1 b1)
  refine (s_l6Of _ cs 1 _ (HZ.out.below B1.out) (by rw [HCL.out]; exact hn1)).mono ?_
  rintro e w2 ⟨vq, rfl, hoq, hb2⟩
  have O2 := Lib.hid (OwnBs.below O1.out hb2)
  have B2 := Lib.hid (bst B1.out hb2 B1.out.size)
  have R2 := Lib.hid (show RowH _ _ _ _ _ from Row.below R1.out hb2)
  have LT : Hid (w.heap.size + 2 ≤ w1.heap.size) := (by have q : w.heap.size + 1 < w1.heap.size := (owns_lt O1.out rfl).2; unfold Hid; omega)
  have Q2 := Lib.hid hoq
  clear hoq hb2 O1 B1 R1 hb0 R0
  generalize ofC cs 1 = gs at *
  cases gs with
  | nil =>
    have HE : Hid (List.replicate n false = grdL h.f cs) := HS0.out.done
    obtain ⟨p, q, rfl⟩ := Q2.out.ints.shape
    simp only [List.length_nil]
    go_wp2_with fail
    go_loopw [6] (fun s wr => s = .slice p 0 q ∧ wr = w2) (fun _ _ => 0)
    case atStart => exact ⟨rfl, rfl⟩
    case round =>
      obtain ⟨rfl, rfl⟩ := hrel
      go_wp2_with fail
      go_ret
      exact ⟨_, rfl, by rw [← HE.out]; exact O2.out, B2.out⟩
  | cons z0 gs =>
  obtain ⟨bq, kq, rfl, hq⟩ := Que.ofOwn Q2.out (by simp)
  have W2 : Hid (GqW w w2 (w.heap.size + 1) n bq 0 kq (.slice fa n fc) b' c (z0 :: gs) (List.replicate n false)) :=
    ⟨O2.out, ⟨by have := hq.lo; have := LT.out; omega, hq.lt, hq.le, hq.at', hq.there, hq.free⟩, R2.out, B2.out, by omega⟩
  clear hq O2 R2 B2 Q2 LT
  generalize z0 :: gs = zs at *
  go_wp2_with fail
  go_loopg [6] (n + zs.length) (fun k q wr => ∃ (b off cap : Nat) (zq : List Int) (S : List Bool), q = .slice (some ⟨b, off, none⟩) zq.length cap ∧ Hid (k = left S + zq.length) ∧ k ≤ 30 ∧ Hid (Gq h.f cs zq S) ∧ Hid (GqW w wr (w.heap.size + 1) n b off cap (.slice fa n fc) b' c zq S))
  case atStart => exact ⟨bq, 0, kq, zs, List.replicate n false, rfl, by rw [left_rep]; exact rfl, by have := HOL.out; omega, HS0, W2⟩
  case round =>
    obtain ⟨b, off, cap, zq, S, rfl, hgk, hg60, hgq, hW⟩ := hrel
    cases zq with
    | nil =>
      have HE : Hid (S = grdL h.f cs) := hgq.out.done
      simp only [List.length_nil]
      go_wp2_with fail
      go_ret
      exact ⟨_, rfl, by rw [← HE.out]; exact hW.out.own, hW.out.low⟩
    | cons z zq =>
      have q0 := hW.out.que.at' 0 (by simp)
      obtain ⟨zz0, zz1, _⟩ := hgq.out.qs z List.mem_cons_self
      obtain ⟨k, rfl⟩ : ∃ k : Nat, z = k := ⟨z.toNat, by omega⟩
      rw [Int.toNat_natCast, HCL.out] at zz1
      have hcap := hW.out.que.le
      have GR := Lib.hid hgq.out.head
      have HW0 := Lib.hid hW.out.tail0
      have HW1 := Lib.hid hW.out.tail
      have hh0 := hW.out.h.c0
      obtain ⟨fb, fo, rfl, hcf⟩ := HF.out.at' (by omega)
      obtain ⟨u, quf, huf⟩ := hcf k zz1
      have qu := cellBelow hW.out.low (Nat.le_refl _) quf
      have HU := Lib.hid huf
      have HIN := Lib.hid (HR.out k)
      obtain ⟨ua, uc, rfl⟩ := huf.shape
      have k1 : (k : Int) < (n : Int) := by omega
      have k0 : (0 : Int) ≤ (k : Int) := by omega
      simp only [List.getD_cons_zero, Nat.add_zero] at q0
      simp only [List.length_cons] at hgk hcap ⊢
      generalize hql : zq.length = ql at *
      have HQL := Lib.hid hql
      have ipos : (0 : Int) < ((ql + 1 : Nat) : Int) := by omega
      clear hql hcf quf huf hW hgq zz0
      generalize hrow : h.f.getD k [] = row at *
      have HROW := Lib.hid hrow; clear hrow
      generalize hul : row.length = ul at *
      have HUL := Lib.hid hul; clear hul
      have hul12 : ul ≤ 12 := by rw [← HUL.out, ← HROW.out]; exact HRL.out k
      have HGK := hgk; clear hgk
      have HKK : Hid (left S + ql = left S + ql) := rfl
      have HKB : Hid (left S + ql ≤ 30) := (by have := HGK.out; unfold Hid; omega)
      by_cases hc1 : cap = 1
      · subst hc1
        obtain rfl : ql = 0 := by omega
        obtain rfl : zq = [] := List.eq_nil_of_length_eq_zero HQL.out
        have HWT : Hid (GqW w wr (w.heap.size + 1) n b off 0 (.slice (some ⟨fb, fo, none⟩) n fc) b' c [] S) := HW0.out rfl
        clear HW0 HW1
        generalize hKKd : left S + 0 = KK at HKK HKB
        have HKD := Lib.hid hKKd; clear hKKd
        replace HKK : Hid (left S + ([] : List Int).length = KK) := HKD
        go_wp2_with fail
        clear qu hh0 q0
        go_loopg [6, 29] ul (fun g q i wy => ∃ (p b off cap : Nat) (zq : List Int) (S : List Bool), p + g = ul ∧ i = .int .i64 p ∧ q = .slice (some ⟨b, off, none⟩) zq.length cap ∧ Hid (left S + zq.length = KK) ∧ Hid (Gr h.f cs zq S k p) ∧ Hid (GqW w wy (w.heap.size + 1) n b off cap (.slice (some ⟨fb, fo, none⟩) n fc) b' c zq S))
        case atStart => exact ⟨0, b, off, 0, [], S, by omega, rfl, rfl, HKK, GR, HWT⟩
        case round =>
          obtain ⟨p, b5, o5, c5, zr, S5, hpn, rfl, rfl, hKK, hgr, hgw⟩ := hrel
          by_cases hpl : p < ul
          · obtain ⟨zb, zo, rfl, hcz⟩ := HU.out.at' (by omega)
            have qz := cellBelow hgw.out.low (Nat.le_refl _) (hcz p hpl)
            have hpr : p < row.length := by rw [HUL.out]; exact hpl
            have HZI := Lib.hid (HIN.out _ (getD_memI hpr))
            have HSK : Hid (missB cs S5 (row.getD p 0) = false → Gr h.f cs zr S5 k (p + 1)) := fun q => hgr.out.skip (by rw [HROW.out]; exact hpr) (by rw [HROW.out]; exact q)
            have HFI : Hid (∀ t : Nat, row.getD p 0 = (t : Int) → missB cs S5 (t : Int) = true → t < n → Gr h.f cs (zr ++ [(t : Int)]) (S5.set t true) k (p + 1)) := fun t q1 q2 q3 => hgr.out.find (by rw [HROW.out]; exact hpr) (by rw [HROW.out]; exact q1) q2 (by rw [HCL.out]; exact q3)
            have hSl : S5.length = n := by rw [hgr.out.gin.len, HCL.out]
            have p1 : (p : Int) < (ul : Int) := by omega
            have p0 : (0 : Int) ≤ (p : Int) := by omega
            clear hcz hpr
            generalize row.getD p 0 = z at *
            by_cases z1 : z < 0
            · have G6 := Lib.hid (HSK.out (missB_neg z1))
              clear HSK HFI hSl
              go_wp2_with fail
              go_roundg (ul - (p + 1))
              case measure => omega
              case rel => exact ⟨p + 1, b5, o5, c5, zr, S5, by omega, by go_num, rfl, hKK, G6, hgw⟩
            · obtain ⟨t, rfl⟩ : ∃ t : Nat, z = t := ⟨z.toNat, by omega⟩
              have htn : t < n := by rcases HZI.out with q | q <;> omega
              obtain ⟨vb, vo, rfl, hcv⟩ := HZ.out.at' (by omega)
              have qv := cellBelow hgw.out.low (Nat.le_refl _) (hcv t htn)
              obtain ⟨_, _, s3, s4⟩ := hgw.out.own.stored hSl htn true
              have W6 := Lib.hid (hgw.out.store hSl htn)
              have LS : Hid (S5.getD t false = false → left (S5.set t true) + 1 = left S5) := left_set (by rw [hSl]; exact htn)
              have MB := Lib.hid (missB_nat (cs := cs) (S := S5) (k := t))
              have t1 : (t : Int) < (n : Int) := by omega
              have t0 : (0 : Int) ≤ (t : Int) := by omega
              have HTN := Lib.hid htn
              clear hcv z1 hSl HZI htn
              generalize hy : cs.getD t 0 = y at *
              clear hy
              generalize hx : S5.getD t false = x at *
              clear hx
              by_cases hy : y = 0
              · subst hy
                cases x
                · have G6 := Lib.hid (HFI.out t rfl MB.out HTN.out)
                  have LS6 := Lib.hid (LS.out rfl)
                  have W7 := Lib.hid (W6.out.alloc (t : Int))
                  have I7 := Lib.hid (ints_one (wr.setCell ⟨w.heap.size + 1, t, none⟩ (.bool true)) (t : Int))
                  have I8 : Hid (IntsAt ((wr.setCell ⟨w.heap.size + 1, t, none⟩ (.bool true)).alloc (.cells #[.int .i64 (t : Int)] 3)) (.slice (some ⟨wr.heap.size, 0, none⟩) 1 1) [(t : Int)]) := (by have q := I7.out; rw [World.size_setCell] at q; exact q)
                  have LL7 : Hid (w.heap.size + 1 + 1 ≤ ((wr.setCell ⟨w.heap.size + 1, t, none⟩ (.bool true)).alloc (.cells #[.int .i64 (t : Int)] 3)).heap.size) := (by have := W7.out.que.lo; have := W7.out.que.lt; unfold Hid; omega)
                  have HZL : Hid (zr.length ≤ 100) := (by have := hKK.out; have := HKB.out; unfold Hid; omega)
                  clear HSK HFI MB LS W6
                  go_wp2_with (at_builtin; refine wl_appQ _ rfl _ _ rfl (w.heap.size + 1 + 1) b5 o5 c5 zr rfl W7.out.que _ [(t : Int)] rfl (by first | exact I7.out | exact I8.out) LL7.out (by have := HZL.out; simp only [List.length_singleton]; omega) ?_
                               intro b8 o8 k8 w8 hq8 hg8
                               have W8 := Lib.hid (W7.out.app hq8 hg8)
                               clear hq8 hg8)
                  go_roundg (ul - (p + 1))
                  case measure => omega
                  case rel => exact ⟨p + 1, b8, o8, k8, zr ++ [(t : Int)], S5.set t true, by omega, by go_num, by simp, by have := hKK.out; have := LS6.out; unfold Hid; rw [List.length_append, List.length_singleton]; omega, G6, W8⟩
                · have G6 := Lib.hid (HSK.out (by rw [MB.out]; rfl))
                  clear HSK HFI MB LS W6
                  go_wp2_with fail
                  go_roundg (ul - (p + 1))
                  case measure => omega
                  case rel => exact ⟨p + 1, b5, o5, c5, zr, S5, by omega, by go_num, rfl, hKK, G6, hgw⟩
              · have hy1 : (y == 0) = false := by simpa using hy
                have G6 := Lib.hid (HSK.out (by rw [MB.out, decide_eq_false hy]; rfl))
                clear HSK HFI MB LS W6 hy
                go_wp2_with fail
                go_roundg (ul - (p + 1))
                case measure => omega
                case rel => exact ⟨p + 1, b5, o5, c5, zr, S5, by omega, by go_num, rfl, hKK, G6, hgw⟩
          · have G9 : Hid (Gq h.f cs zr S5) := Gr.over (by rw [HROW.out, HUL.out]; have e : p = ul := (by omega); rw [← e]; exact hgr.out)
            go_wp2_with fail
            go_roundg KK
            case measure => have := HGK.out; have := HKD.out; omega
            case rel => exact ⟨b5, o5, c5, zr, S5, rfl, by have := hKK.out; unfold Hid; omega, by have := HKB.out; omega, G9, hgw⟩
      · have HWT := HW1
        clear HW0 HW1
        generalize hKKd : left S + ql = KK at HKK HKB
        have HKD := Lib.hid hKKd; clear hKKd
        replace HKK : Hid (left S + zq.length = KK) := (by unfold Hid; rw [HQL.out]; exact HKD.out)
        go_wp2_with fail
        clear qu hh0 q0
        go_loopg [6, 29] ul (fun g q i wy => ∃ (p b off cap : Nat) (zq : List Int) (S : List Bool), p + g = ul ∧ i = .int .i64 p ∧ q = .slice (some ⟨b, off, none⟩) zq.length cap ∧ Hid (left S + zq.length = KK) ∧ Hid (Gr h.f cs zq S k p) ∧ Hid (GqW w wy (w.heap.size + 1) n b off cap (.slice (some ⟨fb, fo, none⟩) n fc) b' c zq S))
        case atStart => exact ⟨0, b, off + 1, cap - 1, zq, S, by omega, rfl, by simp [HQL.out], HKK, GR, HWT⟩
        case round =>
          obtain ⟨p, b5, o5, c5, zr, S5, hpn, rfl, rfl, hKK, hgr, hgw⟩ := hrel
          by_cases hpl : p < ul
          · obtain ⟨zb, zo, rfl, hcz⟩ := HU.out.at' (by omega)
            have qz := cellBelow hgw.out.low (Nat.le_refl _) (hcz p hpl)
            have hpr : p < row.length := by rw [HUL.out]; exact hpl
            have HZI := Lib.hid (HIN.out _ (getD_memI hpr))
            have HSK : Hid (missB cs S5 (row.getD p 0) = false → Gr h.f cs zr S5 k (p + 1)) := fun q => hgr.out.skip (by rw [HROW.out]; exact hpr) (by rw [HROW.out]; exact q)
            have HFI : Hid (∀ t : Nat, row.getD p 0 = (t : Int) → missB cs S5 (t : Int) = true → t < n → Gr h.f cs (zr ++ [(t : Int)]) (S5.set t true) k (p + 1)) := fun t q1 q2 q3 => hgr.out.find (by rw [HROW.out]; exact hpr) (by rw [HROW.out]; exact q1) q2 (by rw [HCL.out]; exact q3)
            have hSl : S5.length = n := by rw [hgr.out.gin.len, HCL.out]
            have p1 : (p : Int) < (ul : Int) := by omega
            have p0 : (0 : Int) ≤ (p : Int) := by omega
            clear hcz hpr
            generalize row.getD p 0 = z at *
            by_cases z1 : z < 0
            · have G6 := Lib.hid (HSK.out (missB_neg z1))
              clear HSK HFI hSl
              go_wp2_with fail
              go_roundg (ul - (p + 1))
              case measure => omega
              case rel => exact ⟨p + 1, b5, o5, c5, zr, S5, by omega, by go_num, rfl, hKK, G6, hgw⟩
            · obtain ⟨t, rfl⟩ : ∃ t : Nat, z = t := ⟨z.toNat, by omega⟩
              have htn : t < n := by rcases HZI.out with q | q <;> omega
              obtain ⟨vb, vo, rfl, hcv⟩ := HZ.out.at' (by omega)
              have qv := cellBelow hgw.out.low (Nat.le_refl _) (hcv t htn)
              obtain ⟨_, _, s3, s4⟩ := hgw.out.own.stored hSl htn true
              have W6 := Lib.hid (hgw.out.store hSl htn)
              have LS : Hid (S5.getD t false = false → left (S5.set t true) + 1 = left S5) := left_set (by rw [hSl]; exact htn)
              have MB := Lib.hid (missB_nat (cs := cs) (S := S5) (k := t))
              have t1 : (t : Int) < (n : Int) := by omega
              have t0 : (0 : Int) ≤ (t : Int) := by omega
              have HTN := Lib.hid htn
              clear hcv z1 hSl HZI htn
              generalize hy : cs.getD t 0 = y at *
              clear hy
              generalize hx : S5.getD t false = x at *
              clear hx
              by_cases hy : y = 0
              · subst hy
                cases x
                · have G6 := Lib.hid (HFI.out t rfl MB.out HTN.out)
                  have LS6 := Lib.hid (LS.out rfl)
                  have W7 := Lib.hid (W6.out.alloc (t : Int))
                  have I7 := Lib.hid (ints_one (wr.setCell ⟨w.heap.size + 1, t, none⟩ (.bool true)) (t : Int))
                  have I8 : Hid (IntsAt ((wr.setCell ⟨w.heap.size + 1, t, none⟩ (.bool true)).alloc (.cells #[.int .i64 (t : Int)] 3)) (.slice (some ⟨wr.heap.size, 0, none⟩) 1 1) [(t : Int)]) := (by have q := I7.out; rw [World.size_setCell] at q; exact q)
                  have LL7 : Hid (w.heap.size + 1 + 1 ≤ ((wr.setCell ⟨w.heap.size + 1, t, none⟩ (.bool true)).alloc (.cells #[.int .i64 (t : Int)] 3)).heap.size) := (by have := W7.out.que.lo; have := W7.out.que.lt; unfold Hid; omega)
                  have HZL : Hid (zr.length ≤ 100) := (by have := hKK.out; have := HKB.out; unfold Hid; omega)
                  clear HSK HFI MB LS W6
                  go_wp2_with (at_builtin; refine wl_appQ _ rfl _ _ rfl (w.heap.size + 1 + 1) b5 o5 c5 zr rfl W7.out.que _ [(t : Int)] rfl (by first | exact I7.out | exact I8.out) LL7.out (by have := HZL.out; simp only [List.length_singleton]; omega) ?_
                               intro b8 o8 k8 w8 hq8 hg8
                               have W8 := Lib.hid (W7.out.app hq8 hg8)
                               clear hq8 hg8)
                  go_roundg (ul - (p + 1))
                  case measure => omega
                  case rel => exact ⟨p + 1, b8, o8, k8, zr ++ [(t : Int)], S5.set t true, by omega, by go_num, by simp, by have := hKK.out; have := LS6.out; unfold Hid; rw [List.length_append, List.length_singleton]; omega, G6, W8⟩
                · have G6 := Lib.hid (HSK.out (by rw [MB.out]; rfl))
                  clear HSK HFI MB LS W6
                  go_wp2_with fail
                  go_roundg (ul - (p + 1))
                  case measure => omega
                  case rel => exact ⟨p + 1, b5, o5, c5, zr, S5, by omega, by go_num, rfl, hKK, G6, hgw⟩
              · have hy1 : (y == 0) = false := by simpa using hy
                have G6 := Lib.hid (HSK.out (by rw [MB.out, decide_eq_false hy]; rfl))
                clear HSK HFI MB LS W6 hy
                go_wp2_with fail
                go_roundg (ul - (p + 1))
                case measure => omega
                case rel => exact ⟨p + 1, b5, o5, c5, zr, S5, by omega, by go_num, rfl, hKK, G6, hgw⟩
          · have G9 : Hid (Gq h.f cs zr S5) := Gr.over (by rw [HROW.out, HUL.out]; have e : p = ul := (by omega); rw [← e]; exact hgr.out)
            go_wp2_with fail
            go_roundg KK
            case measure => have := HGK.out; have := HKD.out; omega
            case rel => exact ⟨b5, o5, c5, zr, S5, rfl, by have := hKK.out; unfold Hid; omega, by have := HKB.out; omega, G9, hgw⟩
end Go.Proofs.Ytkkigoamphkalaa
namespace Go.Proofs.Ytkkigoamphkalaa
open Go.RowKit Ph

set_option maxRecDepth 100000 in
set_option maxHeartbeats 6400000 in
theorem s_l8Lost (a b c v : Value) (h : H) (cs : List Int) (w : World) (hA : HeapAt w a b c h) (hG : Ph.Good h) (hz : IntsAt w v cs) (hlen : cs.length = h.f.length) : Calls Try.prog 100 #[hv a b c, v] w fun e w' => ∃ v', e = .returned v' ∧ Own w' w.heap.size v' (lostL h cs) ∧ Below w.heap.size w w' := by
  obtain ⟨i0, hi, hz0, hz1, hz2⟩ := info_parts info_int
  have hb0 := below1 w (.cells (c3 a b c) 30)
  have A0 := Lib.hid (hA.below hb0)
  have Z0 := Lib.hid (hz.below hb0)
  have HB := Lib.hid hb0
  have R0 := Lib.hid (show RowH _ _ a b c from Row.new w 30 (c3 a b c))
  have HG := Lib.hid hG
  have HLE := Lib.hid hlen
  have hn12 : cs.length ≤ 12 := by rw [hlen]; exact hG.n
  have HLO : Hid (lostL h cs = lostTo h cs cs.length) := by unfold Hid lostL; rw [hlen]
  have HGL : Hid ((grdL h.f cs).length = cs.length) := grdL_len _ _
  have HRL : Hid ((reachL h.f h.r).length = cs.length) := by unfold Hid; rw [reachL_length, hlen]
  have HTY : Hid (∀ j : Nat, (reachL h.f h.r).getD j false = true → missB cs (grdL h.f cs) (j : Int) = true → lostTo h cs (j + 1) = lostTo h cs j ++ [(j : Int)]) := fun j => lostTo_yes
  have HTN : Hid (∀ j : Nat, ((reachL h.f h.r).getD j false = false ∨ missB cs (grdL h.f cs) (j : Int) = false) → lostTo h cs (j + 1) = lostTo h cs j) := fun j => lostTo_no
  obtain ⟨va, vc, rfl⟩ := hz.shape
  clear hA hz hb0 hG hlen
  have c0 := R0.out.c0
  have c1 := R0.out.c1
  have c2 := R0.out.c2
  generalize lostL h cs = lo at *
  generalize hgl : grdL h.f cs = G at *
  have HGD := Lib.hid hgl; clear hgl
  generalize hn : cs.length = n at *
  have HN := Lib.hid hn; clear hn
  go_enter Try.func100, Try.ntmps100
  go_wp2_with fail
  refine (s_l8Guarded _ _ _ _ h cs _ A0.out HG.out Z0.out (HN.out.trans HLE.out)).mono ?_
  rintro e w2 ⟨gv, rfl, ho2, hb2⟩
  rw [HGD.out] at ho2
  have B2 := Lib.hid (bst HB.out hb2 HB.out.size)
  have R2 := Lib.hid (R0.out.below hb2)
  have A2 := Lib.hid (A0.out.below hb2)
  have Z2 := Lib.hid (Z0.out.below hb2)
  have O2 := Lib.hid (owns_bools ho2)
  obtain ⟨ga, gc, hgv⟩ := own_boolshape ho2
  rw [HGL.out] at hgv
  subst hgv
  clear ho2 hb2 c0 c1 c2 A0 Z0 R0 HB
  have d0 := R2.out.c0
  have d1 := R2.out.c1
  have d2 := R2.out.c2
  go_wp2_with fail
  refine (s_l5Reached _ _ _ h _ A2.out HG.out).mono ?_
  rintro e w5 ⟨v4, rfl, ho4, hb4⟩
  have B5 := Lib.hid (bst B2.out hb4 B2.out.size)
  have Z5 := Lib.hid (Z2.out.below hb4)
  have O5 := Lib.hid (O2.out.below hb4)
  obtain ⟨qa, qc, hqv⟩ := own_boolshape ho4
  rw [HRL.out] at hqv
  subst hqv
  have Q5 := Lib.hid (owns_bools ho4)
  clear ho4 hb4 B2 Z2 A2 O2 R2 d0 d1 d2
  generalize reachL h.f h.r = rs at *
  go_wp2_with fail
  go_loopw [6, 15] (fun t i wr => ∃ j : Nat, j ≤ n ∧ i = .int .i64 j ∧ Hid (Own wr w5.heap.size t (lostTo h cs j)) ∧ Hid (Below w5.heap.size w5 wr)) (fun _ i _ => n - (intOf i).toNat)
  case atStart => exact ⟨0, Nat.zero_le _, rfl, by rw [lostTo_zero]; exact Own.nil _ _, Below.refl _ _⟩
  case round =>
    obtain ⟨j, hj, rfl, ho, hbr⟩ := hrel
    by_cases hlt : j < n
    · obtain ⟨qb, qo, rfl, hcq⟩ := (Q5.out.below hbr.out).at' (by omega)
      have qq := hcq j hlt
      obtain ⟨vb, vo, rfl, hcv⟩ := (Z5.out.below hbr.out).at' (by omega)
      have qv := hcv j hlt
      obtain ⟨gb, go, rfl, hcg⟩ := (O5.out.below hbr.out).at' (by omega)
      have qg := hcg j hlt
      have MB := Lib.hid (missB_nat (cs := cs) (S := G) (k := j))
      have HY := Lib.hid (HTY.out j)
      have HNO := Lib.hid (HTN.out j)
      have HFL := Lib.hid (lostTo_len h cs j)
      have j1 : (j : Int) < (n : Int) := by omega
      have j0 : (0 : Int) ≤ (j : Int) := by omega
      clear hcq hcv hcg
      generalize rs.getD j false = x at *
      generalize cs.getD j 0 = y at *
      generalize G.getD j false = g at *
      cases x
      · have HE := Lib.hid (HNO.out (.inl rfl))
        clear HY HNO MB
        go_wp2_with fail
        go_roundw
        case rel => exact ⟨j + 1, by omega, by go_num, by rw [HE.out]; exact ho, hbr⟩
        case measure => simp [intOf]; omega
      · by_cases hy : y = 0
        · subst hy
          cases g
          · have HE := Lib.hid (HY.out rfl (by rw [MB.out]; rfl))
            have HS := Lib.hid (src_int wr (j : Int))
            have HB1 := Lib.hid (hbr.out.alloc hbr.out.size (.cells #[.int .i64 (j : Int)] 3))
            have HO1 := Lib.hid (ho.out.below (below1 wr (.cells #[.int .i64 (j : Int)] 3)))
            clear HY HNO MB
            go_wp2_with (at_builtin; refine wl_appOwn _ rfl _ _ 24 rfl w5.heap.size 3 i0 (.int .i64 0) 8 Try.underlying24 hi hz0 hz1 hz2 rfl u6 _ _ rfl HO1.out _ _ rfl HS.out (by have := HFL.out; simp; unfold maxLen; omega) (by have := HFL.out; simp; omega) HB1.out.size ?_; intro v8 w8 ho8 hg8 hbl8; have O8 : Hid (Own w8 w5.heap.size v8 (lostTo h cs j ++ [(j : Int)])) := by { unfold Hid Own; rw [List.map_append, List.length_append]; exact ho8 }; have B8 := Lib.hid (HB1.out.grown hg8 HB1.out.size (fun g' hg' => (owns_lt HO1.out hg').1)); clear ho8 hg8 hbl8)
            go_roundw
            case rel => exact ⟨j + 1, by omega, by go_num, by rw [HE.out]; exact O8, B8⟩
            case measure => simp [intOf]; omega
          · have HE := Lib.hid (HNO.out (.inr (by rw [MB.out]; rfl)))
            clear HY HNO MB
            go_wp2_with fail
            go_roundw
            case rel => exact ⟨j + 1, by omega, by go_num, by rw [HE.out]; exact ho, hbr⟩
            case measure => simp [intOf]; omega
        · have hy1 : (y == 0) = false := by simpa using hy
          have HE := Lib.hid (HNO.out (.inr (by rw [MB.out, decide_eq_false hy]; rfl)))
          clear HY HNO MB hy
          go_wp2_with fail
          go_roundw
          case rel => exact ⟨j + 1, by omega, by go_num, by rw [HE.out]; exact ho, hbr⟩
          case measure => simp [intOf]; omega
    · have hjn : Hid (j = n) := by unfold Hid; omega
      have BS := Lib.hid B5.out.size
      have B9 := Lib.hid (bst B5.out hbr.out B5.out.size)
      go_wp2_with fail
      go_ret
      exact ⟨_, rfl, by rw [HLO.out, ← hjn.out]; exact ho.out.mono BS.out, B9.out⟩
set_option maxRecDepth 100000 in
set_option maxHeartbeats 3200000 in
theorem s_LostIn (a b c v : Value) (h : H) (cs : List Int) (w : World) (hA : HeapAt w a b c h) (hz : IntsAt w v cs) : Calls Try.prog 33 #[hv a b c, v] w (EndI (lostR h cs) (bothB h cs) w) := by
  have hb0 := below1 w (.cells (c3 a b c) 30)
  have A0 := Lib.hid (hA.below hb0)
  have Z0 := Lib.hid (hz.below hb0)
  have HB := Lib.hid hb0
  have R0 := Lib.hid (show RowH _ _ a b c from Row.new w 30 (c3 a b c))
  have HF := Lib.hid hA.f
  clear hA hb0
  have HC := Lib.hid (s_l6Both a b c v h cs _ A0.out Z0.out)
  have HE1 := Lib.hid (lostR_no (h := h) (cs := cs))
  have HE2 := Lib.hid (lostR_yes (h := h) (cs := cs))
  have HBB := Lib.hid (bothB_iff (h := h) (cs := cs)).1
  obtain ⟨va, vc, rfl⟩ := hz.shape
  clear hz
  generalize hx : bothB h cs = x at *
  have HX := Lib.hid hx; clear hx
  have c0 := R0.out.c0
  have c1 := R0.out.c1
  have c2 := R0.out.c2
  cases x
  · have HR := Lib.hid (HE1.out rfl)
    go_enter Try.func33, Try.ntmps33
    go_wp2_with (go_at_call 99; refine HC.out.mono ?_; rintro e w1 ⟨rfl, hb1⟩; have B1 := Lib.hid (bst HB.out hb1 HB.out.size); clear hb1)
    go_ret2
    exact endI_no B1.out HR.out rfl
  have HR := Lib.hid (HE2.out rfl)
  obtain ⟨hG, hlen, hcol⟩ := HBB.out rfl
  have HG := Lib.hid hG
  have HLE := Lib.hid hlen
  clear hG hcol HBB hlen
  go_enter Try.func33, Try.ntmps33
  go_wp2_with (go_at_call 99; refine HC.out.mono ?_; rintro e w1 ⟨rfl, hb1⟩; have B1 := Lib.hid (bst HB.out hb1 HB.out.size); have Z1 := Lib.hid (Z0.out.below hb1); have A1 := Lib.hid (A0.out.below hb1); have R1 := Lib.hid (R0.out.below hb1); have d0 := R1.out.c0; have d1 := R1.out.c1; have d2 := R1.out.c2; clear hb1)
  refine (s_l8Lost _ _ _ _ h cs _ A1.out HG.out Z1.out HLE.out).mono ?_
  rintro e w2 ⟨v2, rfl, ho2, hb2⟩
  have B2 := Lib.hid (bst B1.out hb2 B1.out.size)
  have O2 := Lib.hid ho2
  have BS := Lib.hid B1.out.size
  clear ho2 hb2
  go_wp2_with fail
  go_ret2
  exact endI_yes B2.out O2.out BS.out HR.out rfl
end Go.Proofs.Ytkkigoamphkalaa
namespace Go.Proofs.Ytkkigoamphkalaa
open Go.RowKit Ph

/-- What is the call's own, and what it reads. -/
structure SpW (w w1 wr : World) (v a b c : Value) (cs : List Int) : Prop where
  own : Own wr w1.heap.size v cs
  h : RowH wr w.heap.size a b c
  low : Below w1.heap.size w1 wr
theorem SpW.below {w w1 wr w' : World} {v a b c : Value} {cs : List Int} (k : SpW w w1 wr v a b c cs) (hb : Below wr.heap.size wr w') : SpW w w1 w' v a b c cs := ⟨k.own.below hb, k.h.below hb, bst k.low hb k.low.size⟩
theorem SpW.set {w w1 wr w' : World} {v a b c : Value} {cs cs' : List Int} (k : SpW w w1 wr v a b c cs) (ho : Own w' w1.heap.size v cs') (hg : wr.grownBy w' v.ownBlock) : SpW w w1 w' v a b c cs' :=
  have hr : Row wr w.heap.size 30 (c3 a b c) := k.h
  ⟨ho, Row.grownBy hr hg (ne_rowI8 k.own hr (by decide)), k.low.grown hg k.low.size (fun g e => (owns_lt k.own e).1)⟩
set_option maxRecDepth 100000 in
set_option maxHeartbeats 6400000 in
theorem s_ShadeLost (a b c v : Value) (h : H) (cs : List Int) (w : World) (hA : HeapAt w a b c h) (hz : IntsAt w v cs) : Calls Try.prog 36 #[hv a b c, v] w (EndII (shlR h cs) (shlM h cs : Int) (bothB h cs) w) := by
  obtain ⟨i00, hi00, hz0, hz1, hz2⟩ := info_parts info_int
  have hb0 := below1 w (.cells (c3 a b c) 30)
  have A0 := Lib.hid (hA.below hb0)
  have Z0 := Lib.hid (hz.below hb0)
  have HB := Lib.hid hb0
  have R0 := Lib.hid (show RowH _ _ a b c from Row.new w 30 (c3 a b c))
  have HF := Lib.hid hA.f
  clear hA hb0
  have HC := Lib.hid (s_l6Both a b c v h cs _ A0.out Z0.out)
  have HE1 := Lib.hid (shlR_no (h := h) (cs := cs))
  have HE2 := Lib.hid (shlR_yes (h := h) (cs := cs))
  have HBB := Lib.hid (bothB_iff (h := h) (cs := cs)).1
  obtain ⟨va, vc, rfl⟩ := hz.shape
  clear hz
  generalize hx : bothB h cs = x at *
  have HX := Lib.hid hx; clear hx
  have c0 := R0.out.c0
  have c1 := R0.out.c1
  have c2 := R0.out.c2
  cases x
  · obtain ⟨HR1, HR2⟩ := HE1.out rfl
    have HR1 := Lib.hid HR1; have HR2 := Lib.hid HR2
    go_enter Try.func36, Try.ntmps36
    go_wp2_with (go_at_call 99; refine HC.out.mono ?_; rintro e w1 ⟨rfl, hb1⟩; have B1 := Lib.hid (bst HB.out hb1 HB.out.size); clear hb1)
    go_ret3
    exact endII_no B1.out HR1.out HR2.out rfl
  have HDN := Lib.hid (HE2.out rfl)
  obtain ⟨hG, hlen, hcol⟩ := HBB.out rfl
  have HG := Lib.hid hG
  have hm12 : cs.length ≤ 12 := by have := hG.n; omega
  have HL : Hid ((cs.map (Value.int .i64)).length = cs.length) := List.length_map _
  have HS0 := Lib.hid (Sk.start hlen hcol)
  clear hG hcol HBB hlen HE1 HE2
  generalize shlR h cs = g1 at *
  generalize shlM h cs = g2 at *
  generalize hn : cs.length = n at *
  have HN := Lib.hid hn; clear hn
  go_enter Try.func36, Try.ntmps36
  go_wp2_with (first
    | (go_at_call 99; refine HC.out.mono ?_; rintro e w1 ⟨rfl, hb1⟩; have B1 := Lib.hid (bst HB.out hb1 HB.out.size); have Z1 := Lib.hid (Z0.out.below hb1); have A1 := Lib.hid (A0.out.below hb1); have R1 := Lib.hid (R0.out.below hb1); have d0 := R1.out.c0; have d1 := R1.out.c1; have d2 := R1.out.c2; clear hb1)
    | (at_builtin; refine wl_appOwn _ rfl _ _ 24 rfl w1.heap.size 3 i00 (.int .i64 0) 8 Try.underlying24 hi00 hz0 hz1 hz2 rfl _ 0 [] rfl (own_nil0 w1) _ _ rfl ((Z1.out.below (below1 w1 (.cells #[] 3))).src) (by rw [HL.out]; unfold maxLen; omega) (by rw [HL.out]; omega) (by simp) ?_; intro v3 w3 ho hg hbl; have o3 : Own w3 w1.heap.size v3 cs := (by { unfold Own; rw [List.nil_append, Nat.zero_add, List.length_map] at ho; exact ho }); have b3 := (below1 w1 (.cells #[] 3)).grown hg (by simp) (fun g e => (owns_lt (own_nil0 w1) e).1); have W3 : Hid (SpW w w1 w3 v3 a b c cs) := ⟨o3, R1.out.below b3, b3⟩; have A3 := Lib.hid (A1.out.below b3); have e0 := W3.out.h.c0; have e1 := W3.out.h.c1; have e2 := W3.out.h.c2; clear ho hg hbl b3 o3))
  have HCL : Hid (cs.length = h.f.length) := HS0.out.l0
  refine (s_l8Lost _ _ _ _ h cs _ A3.out HG.out W3.out.own.ints HCL.out).mono ?_
  rintro e w4 ⟨v4, rfl, ho4, hb4⟩
  have W4 := Lib.hid (W3.out.below hb4)
  have T4 := Lib.hid ho4.ints
  obtain ⟨pn, qn, hv3⟩ := W3.out.own.ints.shape
  rw [HN.out] at hv3
  subst hv3
  have BS := Lib.hid B1.out.size
  clear ho4 hb4 d0 d1 d2 e0 e1 e2 W3 A3 c0 c1 c2
  go_wp2_with fail
  go_loopg [8, 9] 12 (fun k s t wr => ∃ (j : Nat) (ds : List Int), k + j = 12 ∧ s = .int .i64 j ∧ Hid (Sk h cs ds j) ∧ Hid (SpW w w1 wr (.slice pn n qn) a b c ds) ∧ Hid (IntsAt wr t (lostL h ds)))
  case atStart => exact ⟨0, cs, rfl, rfl, HS0, W4, T4⟩
  case round =>
    obtain ⟨j, ds, hkj, rfl, hsk, hw, ht⟩ := hrel
    have hdl : Hid (ds.length = h.f.length) := hsk.out.len
    have HML : Hid (∀ z ∈ lostL h ds, ∃ k : Nat, k < h.f.length ∧ z = (k : Int)) := fun z hz => by obtain ⟨i, q1, _, _, _, q2⟩ := (mem_lostL hdl.out).1 hz; exact ⟨i, q1, q2⟩
    have HX : Hid (∀ k : Nat, 0 < (lostL h ds).length → (lostL h ds).getD 0 0 = (k : Int) → shl1 h ds = shade ds (k : Int)) := fun k q1 q2 => shl1_nat rfl q1 q2
    have HST := Lib.hid hsk.out.step
    have HFI := Lib.hid (HDN.out ds j hsk.out)
    obtain ⟨ta, tc, rfl⟩ := ht.out.shape
    generalize lostL h ds = ts at *
    generalize hq : ts.length = q at *
    have HQ := Lib.hid hq; clear hq
    by_cases hq0 : q = 0
    · subst hq0
      obtain ⟨HR1, HR2⟩ := HFI.out (List.eq_nil_of_length_eq_zero HQ.out)
      have HR1 := Lib.hid HR1; have HR2 := Lib.hid HR2
      have B9 := Lib.hid (bst B1.out hw.out.low B1.out.size)
      go_wp2_with fail
      go_ret3
      exact endII_yes B9.out hw.out.own BS.out HR1.out (by rw [HR2.out]) rfl
    · have q1 : (0 : Int) < (q : Int) := by omega
      have hq1 : 0 < ts.length := by rw [HQ.out]; omega
      obtain ⟨k, hk1, hk5⟩ := HML.out _ (getD_memI hq1)
      obtain ⟨tb, to, rfl, hct⟩ := ht.out.at' (by omega)
      have qt := hct 0 (by omega)
      rw [hk5, Nat.add_zero] at qt
      have HE := Lib.hid (HX.out k (by omega) hk5)
      have HKL : Hid ((k : Int) < ds.length) := by unfold Hid; rw [hdl.out]; omega
      have SK1 : Hid (Sk h cs (shl1 h ds) (j + 1)) := HST.out (List.length_pos_iff.1 hq1)
      have hj12 : j + 1 ≤ 12 := by have := SK1.out.le; have := HG.out.n; omega
      have HL6 : Hid ((shl1 h ds).length = h.f.length) := SK1.out.len
      clear hct hk1 hk5 hq1 HX HML HST HFI
      go_wp2_with fail
      refine (s_l6Shade (.slice pn n qn) ds (k : Int) _ _ hw.out.own HKL.out).mono ?_
      rintro e w6 ⟨rfl, ho6, hg6⟩
      rw [← HE.out] at ho6
      have W6 := Lib.hid (hw.out.set ho6 hg6)
      have A6 := Lib.hid (A1.out.below W6.out.low)
      have d0 := W6.out.h.c0
      have d1 := W6.out.h.c1
      have d2 := W6.out.h.c2
      clear ho6 hg6 qt
      go_wp2_with fail
      refine (s_l8Lost _ _ _ _ h (shl1 h ds) _ A6.out HG.out W6.out.own.ints HL6.out).mono ?_
      rintro e w7 ⟨v7, rfl, ho7, hb7⟩
      have W7 := Lib.hid (W6.out.below hb7)
      have T7 := Lib.hid ho7.ints
      clear ho7 hb7 d0 d1 d2 W6 A6
      go_wp2_with fail
      go_roundg (12 - (j + 1))
      case measure => omega
      case rel => exact ⟨j + 1, _, by omega, by go_num, SK1, W7, T7⟩
end Go.Proofs.Ytkkigoamphkalaa
namespace Go.Proofs.Ytkkigoamphkalaa
open Go.ChangeShapes Go.WideShapes Go.ChangeAt Go.RowKit

theorem own : ownKnob Try.prog.godebug = none := by kernel_rfl
theorem laidOut : laidOutB Try.prog = true := by kernel_rfl

section
variable {H : Type} {enc : TypeId × Value → H} {P : Program}
theorem trodAll_below (hl : laidOutB P = true) {W W' : World} (hb : Below W.heap.size W W') :
    ∀ (ts : List TypeId) (vs : List Value) (ds : List (DataW H)) (ps : List MemPlace), (∀ t ∈ ts, P.readableRec t = true ∧ t < P.types.size) →
      DataW.TrodAll enc P W 0 (fun _ => true) true ts vs ds ps → (∀ x ∈ ps, x.block < W.heap.size) →
      DataW.TrodAll enc P W' 0 (fun b => decide (b < W.heap.size)) true ts vs ds ps
  | [], [], [], _, _, h, _ => h
  | t :: ts, v :: vs, d :: ds, ps, hr, h, hlt => by
    obtain ⟨p, q, h1, h2, rfl⟩ := h
    exact ⟨p, q, Below.trod hl (hr t (by simp)).1 (hr t (by simp)).2 h1 hb (fun x hx => hlt x (by simp [hx])),
      trodAll_below hl hb ts vs ds q (fun t ht => hr t (by simp [ht])) h2 (fun x hx => hlt x (by simp [hx])), rfl⟩
  | [], [], _ :: _, _, _, h, _ => h.elim
  | [], _ :: _, _, _, _, h, _ => h.elim
  | _ :: _, [], _, _, _, h, _ => h.elim
  | _ :: _, _ :: _, [], _, _, h, _ => h.elim
theorem var_lt {W : World} {n : String} {g : Nat} {cs : Array Value} (hg : P.globalNamed n = some g) (hv : W.var? P n = some cs) : g < W.heap.size := by
  unfold World.var? at hv
  simp only [hg, Option.bind_some] at hv
  by_cases h : g < W.heap.size
  · exact h
  · have hn : W.heap[g]? = none := by simp; omega
    simp [hn] at hv
theorem trodVars_below (hl : laidOutB P = true) {W W' : World} (hb : Below W.heap.size W W') :
    ∀ (ns : List String) (ds : List (DataW H)) (ps : List MemPlace), (∀ n ∈ ns, ∀ g t, P.globalNamed n = some g → (P.globals[g]?).map (·.type) = some t → P.readableRec t = true ∧ t < P.types.size) →
      DataW.TrodVars enc P W (fun _ => true) ns ds ps → (∀ x ∈ ps, x.block < W.heap.size) →
      DataW.TrodVars enc P W' (fun b => decide (b < W.heap.size)) ns ds ps
  | [], [], _, _, h, _ => h
  | n :: ns, d :: ds, ps, hr, h, hlt => by
    obtain ⟨g, t, cs, fuel, p, q, h1, h2, h3, h4, h5, rfl⟩ := h
    have ht : DataW.Trod enc P W 0 (fun _ => true) true t (.agg cs) d p := ⟨fuel, h4⟩
    obtain ⟨fuel', h4'⟩ := Below.trod hl (hr n (by simp) g t h1 h2).1 (hr n (by simp) g t h1 h2).2 ht hb (fun x hx => hlt x (by simp [hx]))
    exact ⟨g, t, cs, fuel', p, q, h1, h2, var?_below hb h1 (var_lt h1 h3) h3, h4', trodVars_below hl hb ns ds q (fun n hn => hr n (by simp [hn])) h5 (fun x hx => hlt x (by simp [hx])), rfl⟩
  | [], _ :: _, _, _, h, _ => h.elim
  | _ :: _, [], _, _, h, _ => h.elim

/-- THE END OF A LAW: it answered true, nothing old has turned. -/
theorem law_post {fn : Func} {s : ChangeSpec} {W W' : World} {args : Array Value} {ds gs : List (DataW H)} {before : List MemPlace} {tb : TypeId} (hl : laidOutB P = true)
    (hps : ∀ t ∈ fn.params.toList, P.readableRec t = true ∧ t < P.types.size) (hvs : ∀ n ∈ s.vars, ∀ g t, P.globalNamed n = some g → (P.globals[g]?).map (·.type) = some t → P.readableRec t = true ∧ t < P.types.size)
    (hW : DataW.Whole enc P fn.params.toList s.vars false W args.toList ds gs before) (hb : Below W.heap.size W W') (hs : s.fn H (ds ++ gs) = { results := [.lit (.bool true)], args := ds, vars := gs })
    (hr : fn.resultTypes = #[tb]) (ht : P.underlying tb = some .bool) : s.post enc P fn false true false false W args (.bool true) W' := by
  have hW' := hW
  obtain ⟨p, q, hA, hV, rfl, hfz, hnd⟩ := hW
  have hlt : ∀ x ∈ p ++ q, x.block < W.heap.size := fun x hx => hW'.lt x hx
  refine ⟨ds, gs, p ++ q, [], p, q, hW', ?_, ?_, ?_, hb.frame _, fun h => by cases h⟩
  · rw [hs, hr]
    exact trodAll_cons_mk (shut_bool ht _) trodAll_mk0
  · rw [hs]
    exact trodAll_below hl hb _ _ _ _ hps hA (fun x hx => hlt x (by simp [hx]))
  · rw [hs]
    exact trodVars_below hl hb _ _ _ hvs hV (fun x hx => hlt x (by simp [hx]))
end
theorem cellsInt : Try.prog.cellsOf 3 = 1 := by kernel_rfl

theorem r_ints : Try.prog.readableRec 24 = true ∧ 24 < Try.prog.types.size := ⟨by kernel_rfl, of_decide_eq_true (by kernel_rfl)⟩
end Go.Proofs.Ytkkigoamphkalaa
namespace Go.Proofs.Ytkkigoamphkalaa
open Go.ChangeShapes Go.WideShapes Go.ChangeAt Go.RowKit Ph

theorem r_heap : Try.prog.readableRec 26 = true ∧ 26 < Try.prog.types.size := ⟨by kernel_rfl, of_decide_eq_true (by kernel_rfl)⟩
theorem cellsIntsL : Try.prog.cellsOf 24 = 1 := by kernel_rfl
theorem cellsBool : Try.prog.cellsOf 4 = 1 := by kernel_rfl
theorem add_none (b off i : Nat) : (⟨b, off, none⟩ : Addr).add i = ⟨b, off + i, none⟩ := by simp [Addr.add]
theorem ints_cells {H : Type} {enc : TypeId × Value → H} {W : World} {fuel : Nat} {v : Value} {x : DataW H × List MemPlace} (h : DataW.trod enc Try.prog W 0 (fun _ => true) true fuel 24 [v] = some x) : ∃ zs, IntsAt W v zs ∧ zs.length ≤ 9223372036854775807 := by
  rcases open_ints Try.underlying24 Try.underlying3 cellsInt h with ⟨hcs, hx⟩ | ⟨a, len', cap', zs, hcs, _, hl, hm, hz, hx, hcell, hwz⟩
  · simp only [List.cons.injEq, and_true] at hcs
    subst hcs
    exact ⟨[], ⟨none, 0, rfl, fun h => absurd h (by simp)⟩, by simp⟩
  · simp only [List.cons.injEq, and_true] at hcs
    subst hcs
    simp only [if_true] at hz
    have hlen : (zs.take len').length = len' := by rw [List.length_take]; omega
    refine ⟨zs.take len', ⟨some a, cap', by rw [hlen], fun h0 => ?_⟩, by rw [hlen]; unfold maxLen at hm; omega⟩
    rw [hlen] at h0 ⊢
    obtain ⟨b, off, rfl, hc⟩ := ints_at hcell (by omega)
    refine ⟨b, off, rfl, fun i hi => ?_⟩
    rw [hc i (by omega)]
    simp [List.getD, hi]
theorem bools_cells {H : Type} {enc : TypeId × Value → H} {W : World} {fuel : Nat} {v : Value} {x : DataW H × List MemPlace} (h : DataW.trod enc Try.prog W 0 (fun _ => true) true fuel 23 [v] = some x) : ∃ bs, BoolsAt W v bs ∧ bs.length ≤ 9223372036854775807 := by
  rcases Deep.open_bools Try.underlying23 Try.underlying4 cellsBool h with ⟨hcs, hx⟩ | ⟨a, len, cap, B, hcs, _, hl, hm, hx, hcell⟩
  · simp only [List.cons.injEq, and_true] at hcs
    subst hcs
    exact ⟨[], ⟨none, 0, rfl, fun h => absurd h (by simp)⟩, by simp⟩
  · simp only [List.cons.injEq, and_true] at hcs
    subst hcs
    have hln : ((List.range len).map B).length = len := by simp
    refine ⟨(List.range len).map B, ⟨some a, cap, by rw [hln], fun h0 => ?_⟩, by rw [hln]; unfold maxLen at hm; omega⟩
    rw [hln] at h0 ⊢
    obtain ⟨b, off, spot⟩ := a
    have hspot : spot = none := by simpa [Addr.add] using World.cell?_spot (hcell 0 (by omega))
    subst hspot
    refine ⟨b, off, rfl, fun i hi => ?_⟩
    have h1 := hcell i (by omega)
    rw [add_none] at h1
    rw [h1]
    simp [List.getD, hi]
theorem rows_cells {H : Type} {enc : TypeId × Value → H} {W : World} {fuel : Nat} {v : Value} {x : DataW H × List MemPlace} (h : DataW.trod enc Try.prog W 0 (fun _ => true) true fuel 22 [v] = some x) : ∃ fs, RowsAt W v fs ∧ Fit fs ∧ fs.length ≤ 9223372036854775807 := by
  rcases Deep.open_int_rows Try.underlying22 Try.underlying24 Try.underlying3 cellsIntsL cellsInt h with ⟨hcs, hx⟩ | ⟨a, len, cap, A, L, C, Z, hcs, _, hl, hm, hx, hrow⟩
  · simp only [List.cons.injEq, and_true] at hcs
    subst hcs
    exact ⟨[], ⟨none, 0, rfl, fun h => absurd h (by simp)⟩, fun k hk => by simp at hk, by simp⟩
  · simp only [List.cons.injEq, and_true] at hcs
    subst hcs
    have hln : ((List.range len).map fun r => (Z r).take (L r)).length = len := by simp
    have hgd : ∀ i, i < len → ((List.range len).map fun r => (Z r).take (L r)).getD i [] = (Z i).take (L i) := fun i hi => by simp [List.getD, hi]
    have hlr : ∀ i, i < len → ((Z i).take (L i)).length = L i := fun i hi => by
      obtain ⟨_, h1, _, h2, _⟩ := hrow i (by omega)
      rw [List.length_take]; omega
    refine ⟨(List.range len).map fun r => (Z r).take (L r), ⟨some a, cap, by rw [hln], fun h0 => ?_⟩, fun k hk => ?_, by rw [hln]; unfold maxLen at hm; omega⟩
    · rw [hln] at h0 ⊢
      obtain ⟨b, off, spot⟩ := a
      have hspot : spot = none := by simpa [Addr.add] using World.cell?_spot (hrow 0 (by omega)).1
      subst hspot
      refine ⟨b, off, rfl, fun i hi => ?_⟩
      obtain ⟨q, h1, h2, h3, _, h5, h6⟩ := hrow i (by omega)
      rw [add_none] at q
      refine ⟨_, q, ?_⟩
      rw [hgd i hi]
      refine ⟨A i, C i, by rw [hlr i hi], fun hp => ?_⟩
      rw [hlr i hi] at hp ⊢
      cases hA : A i with
      | none => have := h5 hA; omega
      | some a' =>
        obtain ⟨_, hc⟩ := h6 a' hA
        obtain ⟨b', off', spot'⟩ := a'
        have hs' : spot' = none := by simpa [Addr.add] using World.cell?_spot (hc 0 (by omega))
        subst hs'
        refine ⟨b', off', rfl, fun j hj => ?_⟩
        have := hc j (by omega)
        rw [add_none] at this
        rw [this]
        simp [List.getD, hj]
    · rw [hln] at hk
      rw [hgd k hk, hlr k hk]
      obtain ⟨_, h1, h2, _⟩ := hrow k (by omega)
      unfold maxLen at h2; omega
set_option maxRecDepth 100000 in
theorem heap_of_arg {H : Type} {enc : TypeId × Value → H} {W : World} {base : Nat} {v : Value} {d : DataW H} {p : List MemPlace} (hval : Value.okWide Try.prog W .any base 26 v)
    (h : DataW.Trod enc Try.prog W 0 (fun _ => true) true 26 v d p) : ∃ (a b c : Value) (k : Ph.H), v = hv a b c ∧ HeapAt W a b c k ∧ FitH k := by
  obtain ⟨v0, v1, v2, y0, y1, y2, n, rfl, _, _, h0, h1, h2⟩ := Joins.open_agg3 Try.underlying26 (by kernel_rfl) (by kernel_rfl) hval h
  obtain ⟨fs, r1, r2, r3⟩ := rows_cells h0
  obtain ⟨bs, s1, s2⟩ := bools_cells h1
  obtain ⟨zs, t1, t2⟩ := ints_cells h2
  exact ⟨v0, v1, v2, ⟨fs, bs, zs⟩, rfl, ⟨r1, s1, t1⟩, ⟨r2, r3, s2, t2⟩⟩
set_option maxRecDepth 100000 in
theorem list_of_arg {H : Type} {enc : TypeId × Value → H} {W : World} {base : Nat} {v : Value} {d : DataW H} {p : List MemPlace} (hval : Value.okWide Try.prog W .any base 24 v)
    (h : DataW.Trod enc Try.prog W 0 (fun _ => true) true 24 v d p) : ∃ zs, IntsAt W v zs ∧ zs.length ≤ 9223372036854775807 := by
  obtain ⟨a0, len, cap, rfl⟩ := okWide_slice Try.underlying24 hval
  obtain ⟨fuel, hf⟩ := h
  exact ints_cells hf
end Go.Proofs.Ytkkigoamphkalaa
