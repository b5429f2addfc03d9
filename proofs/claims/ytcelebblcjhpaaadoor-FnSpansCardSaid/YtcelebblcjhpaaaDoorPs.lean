/- Plain mathematics of spans: what is valid, what a slot's bit turns, words and slots. No program is named here. -/
import Derived.Test.YtcelebblcjhpaaaDoorPlain
import Derived.Test.YtcelebblcjhpaaaDoorPe
namespace Go.Proofs.YtcelebblcjhpaaaDoor.Pb
open Go Go.RowKit

/-- A valid span: its page, its class, its bitmap. -/
def Sok (f c long : Int) (zs : List Int) : Prop := Pl.isCl c = true ∧ (0 ≤ f ∧ f ≤ 32 - Pl.pgOf c) ∧ long = Pl.slOf c ∧ Bok long zs
theorem sl_all : ∀ k : Fin 41, Pl.slOf (k.val : Int) ≤ 64 := by decide +kernel
theorem sl_bd {c : Int} (h : Pl.isCl c = true) : 1 ≤ Pl.slOf c ∧ Pl.slOf c ≤ 64 := by
  have h1 := (Pl.slots_law h).2.2.2.1
  obtain ⟨h2, h3⟩ := Pl.isCl_iff.1 h
  obtain ⟨n, rfl⟩ := Int.eq_ofNat_of_zero_le h2
  exact ⟨h1, sl_all ⟨n, by omega⟩⟩
theorem pg_bd {c : Int} (h : Pl.isCl c = true) : 1 ≤ Pl.pgOf c ∧ Pl.pgOf c ≤ 8 := ⟨(Pl.slots_law h).2.2.2.2.2.1, (Pl.slots_law h).2.2.2.2.2.2.1⟩
theorem room_bd {c : Int} (h : Pl.isCl c = true) : Pl.slOf c * Pl.szOf c ≤ Pl.pgOf c * 64 := by have := Pl.slots_law h; omega
theorem Sok.len {f c long : Int} {zs : List Int} (h : Sok f c long zs) : zs.length ≤ 4 := by
  obtain ⟨h1, h2, h3, h4⟩ := h
  have := sl_bd h1
  have := h4.2.2.1
  omega
theorem Sok.long {f c long : Int} {zs : List Int} (h : Sok f c long zs) : 1 ≤ long ∧ long ≤ 64 := by
  obtain ⟨h1, h2, h3, h4⟩ := h
  have := sl_bd h1
  omega
theorem Sok.from {f c long : Int} {zs : List Int} (h : Sok f c long zs) : 0 ≤ f ∧ f ≤ 31 := by
  obtain ⟨h1, h2, h3, h4⟩ := h
  have := pg_bd h1
  omega
theorem Sok.put {f c long : Int} {zs ys : List Int} (h : Sok f c long zs) (hy : Bok long ys) : Sok f c long ys := ⟨h.1, h.2.1, h.2.2.1, hy⟩

theorem setBit_run (zs : List Int) (p : Nat) (on : Bool) : runL zs p on (p + 1 - p) = setBit zs p on := by
  rw [show p + 1 - p = 1 by omega]; rfl
theorem in_one {long : Int} {p : Nat} (hp : (p : Int) < long) : InRun long (p : Int) ((p + 1 : Nat) : Int) := ⟨by omega, by omega, by omega⟩
theorem setBit_ok {long : Int} {zs : List Int} (hB : Bok long zs) {p : Nat} (hp : (p : Int) < long) (on : Bool) : Bok long (setBit zs p on) := by
  have := runL_ok hB (in_one hp) on
  rwa [setBit_run] at this
theorem setBit_bits {long : Int} {zs : List Int} (hB : Bok long zs) {p : Nat} (hp : (p : Int) < long) (on : Bool) (k : Nat) : bitL (setBit zs p on) k = if k = p then on else bitL zs k :=
  setBit_bit hB.w (by have := hB.2.2.1; omega) on k
theorem bit_p (p k : Nat) : bitF (runW (p : Int) ((p : Int) + 1)) k = decide (k = p) := by
  rw [bitF_runW, ← Bool.decide_and]
  exact decide_eq_decide.2 (by omega)
/-- The project sets a slot's bit by a mask, the reference in its word. -/
theorem take_eq {long : Int} {zs : List Int} (hB : Bok long zs) {p : Nat} (hp : (p : Int) < long) : wl zs.length (fun k => bits .or .u16 (zs.getD k 0) (runW (p : Int) ((p : Int) + 1) k)) = setBit zs p true := by
  have hl := hB.2.2.1
  have hp' : p < 16 * zs.length := by omega
  refine ext_words (by rw [wl_length, setBit_length]) (wl_w (fun k => w_or _ _) _) (setBit_w hB.w hp' true) (fun k => ?_)
  rw [setBit_bits hB hp]
  by_cases hk : k < 16 * zs.length
  · rw [wl_bit hk, bitF_or hB.w (fun k => w_runW _ _ _), bit_p]
    by_cases e : k = p
    · rw [if_pos e, decide_eq_true e]; simp
    · rw [if_neg e, decide_eq_false e]; simp; rfl
  · rw [if_neg (by omega), bitL_end (by rw [wl_length]; omega), bitL_end (by omega)]
theorem free1_eq {long : Int} {zs : List Int} (hB : Bok long zs) {p : Nat} (hp : (p : Int) < long) : wl zs.length (fun k => bits .andNot .u16 (zs.getD k 0) (runW (p : Int) ((p : Int) + 1) k)) = setBit zs p false := by
  have hl := hB.2.2.1
  have hp' : p < 16 * zs.length := by omega
  refine ext_words (by rw [wl_length, setBit_length]) (wl_w (fun k => w_andNot _ _) _) (setBit_w hB.w hp' false) (fun k => ?_)
  rw [setBit_bits hB hp]
  by_cases hk : k < 16 * zs.length
  · rw [wl_bit hk, bitF_andNot hB.w (fun k => w_runW _ _ _), bit_p]
    by_cases e : k = p
    · rw [if_pos e, decide_eq_true e]; simp
    · rw [if_neg e, decide_eq_false e]; simp; rfl
  · rw [if_neg (by omega), bitL_end (by rw [wl_length]; omega), bitL_end (by omega)]
/-- A slot that was taken and is freed again. -/
theorem back_eq {long : Int} {zs : List Int} (hB : Bok long zs) {p : Nat} (hp : (p : Int) < long) (h0 : bitL zs p = false) : setBit (setBit zs p true) p false = zs := by
  have hB1 := setBit_ok hB hp true
  have hB2 := setBit_ok hB1 hp false
  refine ext_words (by rw [setBit_length, setBit_length]) hB2.w hB.w (fun k => ?_)
  rw [setBit_bits hB1 hp, setBit_bits hB hp]
  by_cases e : k = p
  · rw [if_pos e, e, h0]
  · rw [if_neg e, if_neg e]
/-- The first slot that is free. -/
theorem slots_eq {long : Int} {zs : List Int} (hB : Bok long zs) {L : Nat} (hL : long = L) : findP (bitF fun j => bits .andNot .u16 (lowW (long - j * 16)) (zs.getD j 0)) 0 96 = findP (fun k => !bitL zs k) 0 L := by
  have h := free_eq hB (a := 0) hL (by omega)
  rw [Nat.sub_zero] at h
  rw [← h]
  refine findP_congr 96 0 (fun j _ => ?_)
  rw [bitF_andNot (fun k => w_lowW _) hB.w, bitF_andNot (fun k => w_runW _ _ _) hB.w, bitF_runW]
  congr 1
  unfold bitF
  rw [tb_lowW _ (Nat.mod_lt _ (by omega))]
  rw [← Bool.decide_and]
  exact decide_eq_decide.2 (by omega)
/-- The slots that a sweep frees. -/
theorem freed_eq {la lb : Int} {za zb : List Int} (ha : Bok la za) (hb : Bok lb zb) {L : Nat} (hL : la = L) :
    countTo (bitF fun k => bits .andNot .u16 (za.getD k 0) (zb.getD k 0)) 96 = countTo (bitL za) L - countTo (bitL (zipW .and za zb)) L := by
  have h96 := ha.2.1
  have e1 : countTo (bitF fun k => bits .andNot .u16 (za.getD k 0) (zb.getD k 0)) 96 = countTo (fun i => bitL za i && !bitL zb i) 96 :=
    countTo_congr _ (fun i _ => by rw [bitF_andNot ha.w hb.w]; rfl)
  have e2 : countTo (fun i => bitL za i && !bitL zb i) 96 = countTo (fun i => bitL za i && !bitL zb i) L := by
    rw [show (96 : Nat) = L + (96 - L) by omega, countTo_add, countTo_false (96 - L) (fun i _ => by rw [ha.2.2.2.2 (L + i) (by omega)]; rfl)]; omega
  have e3 : countTo (bitL (zipW .and za zb)) L = countTo (fun i => bitL za i && bitL zb i) L :=
    countTo_congr _ (fun i _ => by rw [zipW_and ha hb, zand_bits ha hb])
  have := countTo_part (bitL za) (bitL zb) L
  rw [e1, e2, e3]; omega
theorem zip_ok {la lb : Int} {za zb : List Int} (ha : Bok la za) (hb : Bok lb zb) : Bok la (zipW .and za zb) := by rw [zipW_and ha hb]; exact zand_ok ha hb
theorem zip_length (op : BinOp) (za zb : List Int) : (zipW op za zb).length = za.length := by unfold zipW; rw [wl_length]
theorem zip_again {la lb : Int} {za zb : List Int} (ha : Bok la za) (hb : Bok lb zb) : zipW .and (zipW .and za zb) zb = zipW .and za zb := by
  have hz := zip_ok ha hb
  refine ext_words (by rw [zip_length]) (zip_ok hz hb).w hz.w (fun k => ?_)
  rw [zipW_and hz hb, zand_bits hz hb, zipW_and ha hb, zand_bits ha hb]
  cases bitL za k <;> cases bitL zb k <;> rfl
theorem countTo_sub_bd (p q : Nat → Bool) (n : Nat) (h : ∀ i, i < n → q i = true → p i = true) : 0 ≤ countTo p n - countTo q n ∧ countTo p n - countTo q n ≤ n := by
  have h1 := countTo_bd p n
  have h2 := countTo_bd q n
  have e : countTo q n = countTo (fun i => p i && q i) n := countTo_congr _ (fun i hi => by
    cases hq : q i with
    | false => simp
    | true => rw [h i hi hq]; rfl)
  have := countTo_part p q n
  have h3 := countTo_bd (fun i => p i && !q i) n
  omega

/-- Words and slots. -/
theorem slot_of {s k sz : Int} (hz : 1 ≤ sz) (h0 : 0 ≤ k) (h1 : k < sz) : (s * sz + k) / sz = s := by
  rw [Int.add_comm, Int.add_mul_ediv_right _ _ (by omega), Int.ediv_eq_zero_of_lt h0 h1, Int.zero_add]
theorem slot_bd {a sz : Int} (hz : 1 ≤ sz) (h0 : 0 ≤ a) : 0 ≤ a / sz ∧ a / sz ≤ a := ⟨Int.ediv_nonneg h0 (by omega), Int.ediv_le_self _ h0⟩
theorem slot_lt {a sz L : Int} (hz : 1 ≤ sz) : a / sz < L ↔ a < L * sz := Int.ediv_lt_iff_lt_mul (by omega)
theorem mul_bd {s sz L : Int} (h0 : 0 ≤ s) (h1 : s < L) (hz : 1 ≤ sz) : 0 ≤ s * sz ∧ s * sz + sz ≤ L * sz := by
  refine ⟨Int.mul_nonneg h0 (by omega), ?_⟩
  have : (s + 1) * sz ≤ L * sz := Int.mul_le_mul_of_nonneg_right (by omega) (by omega)
  rw [Int.add_mul, Int.one_mul] at this
  exact this
/-- A word of a slot lies within the pages. -/
theorem thing_near {f c l x : Int} {zs : List Int} (h : Sok f c l zs) (_ : ¬ x < f * 64) (hs : (x - f * 64) / Pl.szOf c < l) : x ≤ 2048 := by
  obtain ⟨h1, h2, h3, h4⟩ := h
  have hz := Pl.szOf_bd h1
  have hr := room_bd h1
  have := (slot_lt (a := x - f * 64) (sz := Pl.szOf c) (L := l) hz.1).1 hs
  rw [h3] at this
  omega
end Go.Proofs.YtcelebblcjhpaaaDoor.Pb
