/- What the laws of chapter 4 draw: the reference's functions, whatever they answer. -/
import Derived.Test.YtcelebblcjhpaaaDoorSs2
import Derived.Test.YtcelebblcjhpaaaDoorDr3
import Derived.Test.YtcelebblcjhpaaaDoorSe1
namespace Go.Proofs.YtcelebblcjhpaaaDoor
open Go.RowKit Pb

/-- The numbers of a drawn span are small. -/
def SpanB (f l : Int) (zs : List Int) : Prop := (-1 ≤ f ∧ f ≤ 32) ∧ (0 ≤ l ∧ l ≤ 96) ∧ zs.length ≤ 6
theorem spanB_zero : SpanB 0 0 [] := ⟨by omega, by omega, by simp⟩
theorem spanB_ok {f c l : Int} {zs : List Int} (h : Sok f c l zs) : SpanB f l zs := ⟨by have := h.from; omega, by have := h.long; omega, by have := h.len; omega⟩
def AnySpan (w : World) (e : Ending) (w' : World) : Prop := ∃ (f c l : Int) (v' : Value) (rs : List Int) (ok : Bool), SpanB f l rs ∧ e = .returned (.tuple #[sp f c l v', .bool ok]) ∧ Own w' w.heap.size v' rs ∧ Below w.heap.size w w'
def AnySpan3 (w : World) (e : Ending) (w' : World) : Prop := ∃ (f c l : Int) (v' : Value) (rs : List Int) (p : Int) (ok : Bool), SpanB f l rs ∧ e = .returned (.tuple #[sp f c l v', .int .i64 p, .bool ok]) ∧ Own w' w.heap.size v' rs ∧ Below w.heap.size w w'
theorem anySpan_none {w w' : World} {e : Ending} (he : e = .returned (.tuple #[sp 0 0 0 (.slice none 0 0), .bool false])) (hb : Below w.heap.size w w') : AnySpan w e w' := ⟨0, 0, 0, _, [], false, spanB_zero, he, ⟨rfl, .inl ⟨rfl, rfl⟩⟩, hb⟩
theorem anySpan3_none {w w' : World} {e : Ending} (he : e = .returned (.tuple #[sp 0 0 0 (.slice none 0 0), .int .i64 0, .bool false])) (hb : Below w.heap.size w w') : AnySpan3 w e w' := ⟨0, 0, 0, _, [], 0, false, spanB_zero, he, ⟨rfl, .inl ⟨rfl, rfl⟩⟩, hb⟩
theorem c_sNewSpan_any (f c : Int) (w : World) : Calls Tryd.prog 30 #[.int .i64 f, .int .i64 c] w (AnySpan w) := by
  cases hc : Pl.isCl c with
  | false => exact (c_sNewSpan_class f c w hc).mono fun _ _ ⟨he, hb⟩ => anySpan_none he hb
  | true =>
    by_cases hf : 0 ≤ f ∧ f ≤ 32 - Pl.pgOf c
    · have hl := sl_bd hc
      have hs : Sok f c (Pl.slOf c) (wl ((Pl.slOf c + 15) / 16).toNat fun _ => 0) := ⟨hc, hf, rfl, zero_ok (by omega) (by omega)⟩
      exact (c_sNewSpan_yes f c w hc hf).mono fun _ _ ⟨v, he, ho, hb⟩ => ⟨f, c, _, v, _, true, spanB_ok hs, he, ho, hb⟩
    · exact (c_sNewSpan_from f c w hc hf).mono fun _ _ ⟨he, hb⟩ => anySpan_none he hb
theorem c_sTakeSlot_any (f c l : Int) (v : Value) (zs : List Int) (w : World) (hv : IntsAt w v zs) : Calls Tryd.prog 14 #[sp f c l v] w (AnySpan3 w) := by
  by_cases hS : Sok f c l zs
  · obtain ⟨L, hL⟩ : ∃ L : Nat, l = L := ⟨l.toNat, by have := hS.long; omega⟩
    cases hf : findP (fun k => !bitL zs k) 0 L with
    | none => exact (c_sTakeSlot_full f c l v zs w hv hS L hL hf).mono fun _ _ ⟨he, hb⟩ => anySpan3_none he hb
    | some p =>
      have hp : (p : Int) < l := by have := (findP_some hf).2.1; omega
      exact (c_sTakeSlot_yes f c l v zs w hv hS L hL p hf).mono fun _ _ ⟨v', he, ho, hb⟩ => ⟨f, c, l, v', _, p, true, spanB_ok (hS.put (setBit_ok hS.2.2.2 hp true)), he, ho, hb⟩
  · exact (c_sTakeSlot_bad f c l v zs w hv hS).mono fun _ _ ⟨he, hb⟩ => anySpan3_none he hb
theorem c_sFreeSlot_any (f c l : Int) (v : Value) (zs : List Int) (s : Int) (w : World) (hv : IntsAt w v zs) : Calls Tryd.prog 26 #[sp f c l v, .int .i64 s] w (AnySpan w) := by
  by_cases hS : Sok f c l zs
  · by_cases hs : 0 ≤ s ∧ s < l
    · obtain ⟨p, rfl⟩ : ∃ p : Nat, s = p := ⟨s.toNat, by omega⟩
      cases hu : bitL zs p with
      | false => exact (c_sFreeSlot_unused f c l v zs p w hv hS hs.2 hu).mono fun _ _ ⟨he, hb⟩ => anySpan_none he hb
      | true => exact (c_sFreeSlot_yes f c l v zs p w hv hS hs.2 hu).mono fun _ _ ⟨v', he, ho, hb⟩ => ⟨f, c, l, v', _, true, spanB_ok (hS.put (setBit_ok hS.2.2.2 hs.2 false)), he, ho, hb⟩
    · exact (c_sFreeSlot_out f c l v zs s w hv hS hs).mono fun _ _ ⟨he, hb⟩ => anySpan_none he hb
  · exact (c_sFreeSlot_bad f c l v zs s w hv hS).mono fun _ _ ⟨he, hb⟩ => anySpan_none he hb
/-- What a drawn span is. -/
def SpanDrawn (c n : Nat) (w : World) (e : Ending) (w' : World) : Prop := ∃ (f k l : Int) (v' : Value) (zs : List Int), SpanB f l zs ∧ e = .returned (sp f k l v') ∧ Own w' w.heap.size v' zs ∧ CurIs w' c n ∧ w.grownBy w' (some c)
theorem CurIs.set4 {w : World} {c n : Nat} (h : CurIs w c n) (g : Nat) (x0 x1 x2 x3 : Value) (hg : c < g) : CurIs ((((w.setCell ⟨g, 0, none⟩ x0).setCell ⟨g, 1, none⟩ x1).setCell ⟨g, 2, none⟩ x2).setCell ⟨g, 3, none⟩ x3) c n :=
  h.kept (fun k hk => by rw [heap_setCell_other _ ⟨g, 3, none⟩ k _ (by (try simp); omega), heap_setCell_other _ ⟨g, 2, none⟩ k _ (by (try simp); omega), heap_setCell_other _ ⟨g, 1, none⟩ k _ (by (try simp); omega), heap_setCell_other w ⟨g, 0, none⟩ k _ (by (try simp); omega)])
theorem CurIs.set1 {w : World} {c n : Nat} (h : CurIs w c n) (g j : Nat) (x : Value) (hg : c < g) : CurIs (w.setCell ⟨g, j, none⟩ x) c n :=
  h.kept (fun k hk => heap_setCell_other w ⟨g, j, none⟩ k _ (by (try simp); omega))
theorem grownBy_set4 {w X : World} {r : Option Nat} (h : w.grownBy X r) (g : Nat) (hg : w.heap.size ≤ g) (x0 x1 x2 x3 : Value) : w.grownBy ((((X.setCell ⟨g, 0, none⟩ x0).setCell ⟨g, 1, none⟩ x1).setCell ⟨g, 2, none⟩ x2).setCell ⟨g, 3, none⟩ x3) r :=
  grownBy_setNew (grownBy_setNew (grownBy_setNew (grownBy_setNew h ⟨g, 0, none⟩ hg x0) ⟨g, 1, none⟩ hg x1) ⟨g, 2, none⟩ hg x2) ⟨g, 3, none⟩ hg x3
theorem cur_rowS_ne {w : World} {c n : Nat} {f k l : Int} {x : Value} (h : CurIs w c n) : ¬ RowS w c f k l x := fun hr => by
  obtain ⟨v, zs, p, s, hh, _⟩ := h
  have := hh.symm.trans hr
  simp at this
theorem own_set1 {w : World} {B : Nat} {v : Value} {zs : List Int} (h : Own w B v zs) (g j : Nat) (x : Value) (hn : v.ownBlock ≠ some g) : Own (w.setCell ⟨g, j, none⟩ x) B v zs := by
  obtain ⟨h1, h2⟩ := h
  refine ⟨h1, ?_⟩
  rcases h2 with h2 | ⟨g0, cap, cur, hv, hg, hh, r⟩
  · exact .inl h2
  · have e : g0 ≠ g := fun e => hn (by rw [hv, e]; rfl)
    exact .inr ⟨g0, cap, cur, hv, hg, by rw [heap_setCell_other w ⟨g, j, none⟩ g0 _ e]; exact hh, r⟩
end Go.Proofs.YtcelebblcjhpaaaDoor
