/-
  What every float operation of the model gives, as a function of the bits: on one pattern for all not-a-numbers ("canon") it is a function of the operands alone.
  Conditions: none, but for narrowing, which speaks of 64-bit numbers whose nearest 32-bit number is finite.
-/
import Derived.Laws.FloatArith
import Derived.WalkLawsBesides
import Derived.Deep.Draws
namespace Go.Proofs.YtpfbhckmpkiijaaDoor
open Ieee

/-! Facts on rungs and words -/
theorem read_word_num (f : Format) (s : Bool) {r : Nat} (h : r ≤ f.infRung) (hs : f.infRung < f.signWeight) : ((f.read (f.word s r)).isNaN) = false := by
  unfold Format.read Format.word
  have h2 : (if s = true then f.signWeight + r else r) % f.signWeight = r := by
    split
    · rw [Nat.add_mod_left]; exact Nat.mod_eq_of_lt (by omega)
    · exact Nat.mod_eq_of_lt (by omega)
  simp only [h2]
  split
  · rfl
  · split
    · rfl
    · split
      · rfl
      · omega

theorem nearest_num (f : Format) (s : Bool) (m : Nat) (p : Int) : (f.read (f.nearest s m p)).isNaN = false := by
  unfold Format.nearest
  dsimp only
  split
  · exact read_word_num f _ (Nat.zero_le _) f.infRung_lt
  · exact read_word_num f _ (Nat.min_le_right ..) f.infRung_lt

theorem write_num (f : Format) (d : Datum) (h : d.isNaN = false) : (f.read (f.write d)).isNaN = false := by
  cases d with
  | number s m p => exact nearest_num f s m p
  | infinity s => exact read_word_num f s (Nat.le_refl _) f.infRung_lt
  | nan s t => cases h

theorem sum_num {x y d : Datum} (h : x.sum y = some d) : d.isNaN = false := by
  unfold Datum.sum at h
  split at h <;> first | (cases h; done) | (split at h <;> first | (cases h; rfl) | (cases h; done)) | (cases h; rfl)
theorem product_num {x y d : Datum} (h : x.product y = some d) : d.isNaN = false := by
  unfold Datum.product at h
  split at h <;> first | (cases h; done) | (split at h <;> first | (cases h; rfl) | (cases h; done)) | (cases h; rfl)
theorem quotient_num {n : Nat} {x y d : Datum} (h : x.quotient n y = some d) : d.isNaN = false := by
  unfold Datum.quotient at h
  split at h <;> first | (cases h; done) | (cases h; rfl) | skip
  split at h
  · split at h <;> first | (cases h; rfl) | (cases h; done)
  · cases h; rfl
theorem root_num {n : Nat} {x d : Datum} (h : x.root n = some d) : d.isNaN = false := by
  unfold Datum.root at h
  split at h
  · cases h
  · split at h <;> first | (cases h; rfl) | (cases h; done)
  · split at h
    · cases h; rfl
    · split at h
      · cases h
      · cases h; rfl

def isNan (k : FloatKind) (b : Nat) : Bool := (k.format.read b).isNaN
def qnan : FloatKind → Nat | .f32 => 2143289344 | .f64 => 9221120237041090560
/-- one pattern for all not-a-numbers -/
def canon (k : FloatKind) (b : Nat) : Nat := if isNan k b then qnan k else b

theorem isNan_qnan (k : FloatKind) : isNan k (qnan k) = true := by cases k <;> decide +kernel
theorem canon_num {k : FloatKind} {b : Nat} (h : isNan k b = false) : canon k b = b := by simp [canon, h]
theorem canon_nan {k : FloatKind} {b : Nat} (h : isNan k b = true) : canon k b = qnan k := by simp [canon, h]
theorem isNan_canon (k : FloatKind) (b : Nat) : isNan k (canon k b) = isNan k b := by
  unfold canon; split
  · rename_i h; rw [isNan_qnan, h]
  · rfl
theorem canon_canon (k : FloatKind) (b : Nat) : canon k (canon k b) = canon k b := by
  unfold canon; split
  · rw [isNan_qnan]; rfl
  · rename_i h; simp

theorem nan_read {k : FloatKind} {b : Nat} (h : isNan k b = true) : ∃ s t, k.format.read b = .nan s t := by
  unfold isNan at h
  cases hd : k.format.read b with
  | nan s t => exact ⟨s, t, rfl⟩
  | number s m p => rw [hd] at h; cases h
  | infinity s => rw [hd] at h; cases h

theorem sum_nan_l (s : Bool) (t : Nat) (d : Datum) : (Datum.nan s t).sum d = none := by cases d <;> rfl
theorem sum_nan_r (s : Bool) (t : Nat) (d : Datum) : d.sum (Datum.nan s t) = none := by cases d <;> rfl
theorem product_nan_l (s : Bool) (t : Nat) (d : Datum) : (Datum.nan s t).product d = none := by cases d <;> rfl
theorem product_nan_r (s : Bool) (t : Nat) (d : Datum) : d.product (Datum.nan s t) = none := by cases d <;> rfl
theorem quotient_nan_l (n s t) (d : Datum) : (Datum.nan s t).quotient n d = none := by cases d <;> rfl
theorem quotient_nan_r (n s t) (d : Datum) : d.quotient n (Datum.nan s t) = none := by cases d <;> rfl
theorem order_nan_l (s t) (d : Datum) : (Datum.nan s t).order d = none := by cases d <;> rfl
theorem order_nan_r (s t) (d : Datum) : d.order (Datum.nan s t) = none := by cases d <;> rfl

theorem floatBits_nan_l (op : BinOp) {k : FloatKind} {x : Nat} (y : Nat) (h : isNan k x = true) : floatBits op k x y = none := by
  obtain ⟨s, t, hr⟩ := nan_read h
  unfold floatBits Format.add Format.sub Format.mul Format.div
  cases op <;> simp [hr, sum_nan_l, product_nan_l, quotient_nan_l]
theorem floatBits_nan_r (op : BinOp) {k : FloatKind} (x : Nat) {y : Nat} (h : isNan k y = true) : floatBits op k x y = none := by
  obtain ⟨s, t, hr⟩ := nan_read h
  unfold floatBits Format.add Format.sub Format.mul Format.div
  cases op <;> simp [hr, sum_nan_r, product_nan_r, quotient_nan_r, Datum.opposite]
theorem order_isNan_l {k : FloatKind} {x : Nat} (y : Nat) (h : isNan k x = true) : k.format.order x y = none := by
  obtain ⟨s, t, hr⟩ := nan_read h
  simp [Format.order, hr, order_nan_l]
theorem order_isNan_r {k : FloatKind} (x : Nat) {y : Nat} (h : isNan k y = true) : k.format.order x y = none := by
  obtain ⟨s, t, hr⟩ := nan_read h
  simp [Format.order, hr, order_nan_r]

theorem order_canon (k : FloatKind) (x y : Nat) : k.format.order (canon k x) (canon k y) = k.format.order x y := by
  by_cases hx : isNan k x = true
  · rw [order_isNan_l _ hx, order_isNan_l _ (by rw [isNan_canon]; exact hx)]
  · by_cases hy : isNan k y = true
    · rw [order_isNan_r _ hy, order_isNan_r _ (by rw [isNan_canon]; exact hy)]
    · rw [canon_num (by simpa using hx), canon_num (by simpa using hy)]

theorem floatBits_canon (op : BinOp) (k : FloatKind) (x y : Nat) : floatBits op k (canon k x) (canon k y) = floatBits op k x y := by
  by_cases hx : isNan k x = true
  · rw [floatBits_nan_l op _ hx, floatBits_nan_l op _ (by rw [isNan_canon]; exact hx)]
  · by_cases hy : isNan k y = true
    · rw [floatBits_nan_r op _ hy, floatBits_nan_r op _ (by rw [isNan_canon]; exact hy)]
    · rw [canon_num (by simpa using hx), canon_num (by simpa using hy)]

theorem map_write_num {f : Format} {d : Option Datum} {r : Nat} (hd : ∀ e, d = some e → e.isNaN = false) (h : d.map f.write = some r) : (f.read r).isNaN = false := by
  cases d with
  | none => cases h
  | some e => cases h; exact write_num f e (hd e rfl)

theorem floatBits_num {op : BinOp} {k : FloatKind} {x y r : Nat} (h : floatBits op k x y = some r) : isNan k r = false := by
  unfold floatBits at h
  unfold isNan
  split at h
  · exact map_write_num (fun _ => sum_num) h
  · exact map_write_num (fun _ => sum_num) h
  · exact map_write_num (fun _ => product_num) h
  · exact map_write_num (fun _ => quotient_num) h
  · cases h

/-- the result on canonical bits -/
def cop (op : BinOp) (k : FloatKind) (x y : Nat) : Nat := (floatBits op k x y).getD (qnan k)

/-- what an operation gives in a world: the tape names a not-a-number's bits -/
def fval (op : BinOp) (k : FloatKind) (x y : Nat) (w : World) : Nat := (floatBits op k x y).getD ((Question.nanBits k x y).cut (w.tape w.drawn (.nanBits k x y)))
def fdr (op : BinOp) (k : FloatKind) (x y : Nat) : Nat := if (floatBits op k x y).isSome then 0 else 1

theorem cut_nan_big (a b c M S : Nat) (h : c + 1 + b % M < S) : ((a % 2) * S + c + 1 + b % M) % S = c + 1 + b % M := by
  rw [show (a % 2) * S + c + 1 + b % M = (c + 1 + b % M) + S * (a % 2) by rw [Nat.mul_comm]; omega, Nat.add_mul_mod_self_left, Nat.mod_eq_of_lt h]

theorem read_big (f : Format) (b : Nat) (h : f.infRung < b % f.signWeight) (hb : f.binade ≤ f.infRung) : (f.read b).isNaN = true := by
  unfold Format.read
  simp only
  rw [if_neg (by omega), if_neg (by omega), if_neg (by omega)]
  rfl

theorem single_sw : Ieee.single.signWeight = 2147483648 := by decide +kernel
theorem single_inf : Ieee.single.infRung = 2139095040 := by decide +kernel
theorem single_bin : Ieee.single.binade = 8388608 := by decide +kernel
theorem double_sw : Ieee.double.signWeight = 9223372036854775808 := by decide +kernel
theorem double_inf : Ieee.double.infRung = 9218868437227405312 := by decide +kernel
theorem double_bin : Ieee.double.binade = 4503599627370496 := by decide +kernel

theorem pat32 (t : Nat) : isNan .f32 ((t % 2) * 2 ^ 31 + 0x7f800000 + 1 + (t / 2) % (2 ^ 23 - 1)) = true ∧ (t % 2) * 2 ^ 31 + 0x7f800000 + 1 + (t / 2) % (2 ^ 23 - 1) < 2 ^ 32 := by
  have h1 : (t / 2) % (2 ^ 23 - 1) < 2 ^ 23 - 1 := Nat.mod_lt _ (by decide)
  have h2 : t % 2 < 2 := Nat.mod_lt _ (by decide)
  generalize (t / 2) % (2 ^ 23 - 1) = r at *
  generalize t % 2 = s at *
  have h3 : (s * 2 ^ 31 + 0x7f800000 + 1 + r) % 2147483648 = 0x7f800000 + 1 + r := by omega
  refine ⟨?_, by omega⟩
  refine read_big Ieee.single _ ?_ ?_
  · rw [single_sw, single_inf, h3]; omega
  · rw [single_bin, single_inf]; omega

theorem pat64 (t : Nat) : isNan .f64 ((t % 2) * 2 ^ 63 + 0x7ff0000000000000 + 1 + (t / 2) % (2 ^ 52 - 1)) = true ∧ (t % 2) * 2 ^ 63 + 0x7ff0000000000000 + 1 + (t / 2) % (2 ^ 52 - 1) < 2 ^ 64 := by
  have h1 : (t / 2) % (2 ^ 52 - 1) < 2 ^ 52 - 1 := Nat.mod_lt _ (by decide)
  have h2 : t % 2 < 2 := Nat.mod_lt _ (by decide)
  generalize (t / 2) % (2 ^ 52 - 1) = r at *
  generalize t % 2 = s at *
  have h3 : (s * 2 ^ 63 + 0x7ff0000000000000 + 1 + r) % 9223372036854775808 = 0x7ff0000000000000 + 1 + r := by omega
  refine ⟨?_, by omega⟩
  refine read_big Ieee.double _ ?_ ?_
  · rw [double_sw, double_inf, h3]; omega
  · rw [double_bin, double_inf]; omega

theorem cut_nanBits (k : FloatKind) (x y t : Nat) : isNan k ((Question.nanBits k x y).cut t) = true ∧ (Question.nanBits k x y).cut t < 2 ^ k.format.width := by
  cases k
  · exact pat32 t
  · exact pat64 t
theorem cut_nanConv (k : FloatKind) (x t : Nat) : isNan k ((Question.nanConv k x).cut t) = true ∧ (Question.nanConv k x).cut t < 2 ^ k.format.width := by
  cases k
  · exact pat32 t
  · exact pat64 t

theorem canon_fval (op : BinOp) (k : FloatKind) (x y : Nat) (w : World) : canon k (fval op k x y w) = cop op k (canon k x) (canon k y) := by
  unfold fval cop
  rw [floatBits_canon]
  cases h : floatBits op k x y with
  | none => exact canon_nan (cut_nanBits k x y _).1
  | some r => exact canon_num (floatBits_num h)

theorem fval_lt (op : BinOp) (k : FloatKind) (x y : Nat) (w : World) : fval op k x y w < 2 ^ k.format.width := by
  unfold fval
  cases h : floatBits op k x y with
  | none => exact (cut_nanBits k x y _).2
  | some r =>
    unfold floatBits at h
    split at h
    · exact k.format.add_lt h
    · exact k.format.sub_lt h
    · exact k.format.mul_lt h
    · exact k.format.div_lt h
    · cases h

section
variable {P : Program} (w : World)
theorem run_fop (op : BinOp) (hop : op = .add ∨ op = .sub ∨ op = .mul ∨ op = .quo) (t : TypeId) (k : FloatKind) (x y : Nat) :
    (binOp op t (.float k x) (.float k y)).run P w = .ok (.float k (fval op k x y w)) (w.drewN (fdr op k x y)) := by
  cases h : floatBits op k x y with
  | some r =>
    rw [run_float_arith w op t k x y r h]
    simp [fval, fdr, h, World.drewN_zero]
  | none =>
    have h' := h
    unfold floatBits at h
    rcases hop with rfl | rfl | rfl | rfl <;> simp only at h <;>
      simp [binOp, Op.floatArith, h, fval, fdr, h', choose, Sem.run, Question.forced, World.drewN]
end

theorem single_least : Ieee.single.leastPlace = -149 := by decide +kernel
theorem double_least : Ieee.double.leastPlace = -1074 := by decide +kernel
theorem single_frac : Ieee.single.fractionBits = 23 := rfl
theorem double_frac : Ieee.double.fractionBits = 52 := rfl

theorem read32_num {b : Nat} {s : Bool} {m : Nat} {e : Int} (h : Ieee.single.read b = .number s m e) : m < 2 ^ 24 ∧ -149 ≤ e ∧ e ≤ 104 := by
  unfold Format.read at h
  simp only [single_bin, single_inf, single_sw, single_least] at h
  split at h
  · cases h; refine ⟨?_, ?_, ?_⟩ <;> omega
  · split at h
    · cases h
      refine ⟨?_, ?_, ?_⟩ <;> omega
    · split at h <;> cases h

theorem cut_zero (way : Toward) (neg : Bool) (n : Nat) : way.cut neg n 0 = n := by
  unfold Toward.cut
  simp
  cases way <;> simp [Nat.mod_one]

theorem arith_small (a B : Nat) (ha : a ≤ 1149) (hB : B < 2 ^ 53) : a * 4503599627370496 + B < 9218868437227405312 := by omega

/-- a number that the double format holds exactly: no digit is lost, no overflow -/
theorem nearest64_small (s : Bool) {m : Nat} {e : Int} (hm0 : m ≠ 0) (hm : m < 2 ^ 24) (he : -149 ≤ e) (he' : e ≤ 104) :
    ∃ r, Ieee.double.nearest s m e = Ieee.double.word s r ∧ r < Ieee.double.infRung := by
  have hl : m.log2 < 24 := (Nat.log2_lt hm0).2 hm
  unfold Format.nearest
  simp only [hm0, if_false, double_frac, double_least, double_bin, double_inf]
  generalize hlast : max (e + (m.log2 : Int) - (52 : Nat)) (-1074) = last
  have h1 : last ≤ e := by omega
  have h2 : last ≤ 75 := by omega
  have h3 : -1074 ≤ last := by omega
  have h4 : (m.log2 : Int) + (e - last) ≤ 52 := by omega
  rw [show (last - e).toNat = 0 by omega, cut_zero]
  obtain ⟨k, hk⟩ : ∃ k : Nat, e - last = k := ⟨(e - last).toNat, by omega⟩
  rw [hk, Int.toNat_natCast]
  have hkept : m <<< k < 2 ^ 53 := by
    rw [Nat.shiftLeft_eq]
    have : m < 2 ^ (m.log2 + 1) := Nat.lt_log2_self
    calc m * 2 ^ k < 2 ^ (m.log2 + 1) * 2 ^ k := Nat.mul_lt_mul_of_pos_right this (Nat.two_pow_pos _)
      _ = 2 ^ (m.log2 + 1 + k) := (Nat.pow_add ..).symm
      _ ≤ 2 ^ 53 := Nat.pow_le_pow_right (by decide) (by omega)
  have h5 : (last - -1074).toNat ≤ 1149 := by omega
  have h7 := arith_small _ _ h5 hkept
  exact ⟨min ((last - -1074).toNat * 4503599627370496 + m <<< k) 9218868437227405312, rfl, Nat.lt_of_le_of_lt (Nat.min_le_left _ _) h7⟩

theorem read_word_fin (f : Format) (s : Bool) {r : Nat} (h : r < f.infRung) : (f.read (f.word s r)).isInfinity = false := by
  have hs := f.infRung_lt
  unfold Format.read Format.word
  have h2 : (if s = true then f.signWeight + r else r) % f.signWeight = r := by
    split
    · rw [Nat.add_mod_left]; exact Nat.mod_eq_of_lt (by omega)
    · exact Nat.mod_eq_of_lt (by omega)
  simp only [h2]
  split
  · rfl
  · rfl

theorem widen_fin {b : Nat} {s : Bool} {m : Nat} {e : Int} (h : Ieee.single.read b = .number s m e) : (Ieee.double.read (Ieee.double.write (.number s m e))).isInfinity = false := by
  obtain ⟨h1, h2, h3⟩ := read32_num h
  show (Ieee.double.read (Ieee.double.nearest s m e)).isInfinity = false
  by_cases hm : m = 0
  · subst hm
    unfold Format.nearest
    simp only [if_true]
    exact read_word_fin _ _ (by rw [double_inf]; decide)
  · obtain ⟨r, hr, hlt⟩ := nearest64_small s hm h1 h2 h3
    rw [hr]
    exact read_word_fin _ _ hlt

/-- a 32-bit number as a 64-bit one -/
def wide (b : Nat) (w : World) : Nat := if isNan .f32 b then (Question.nanConv .f64 b).cut (w.tape w.drawn (.nanConv .f64 b)) else Ieee.double.write (Ieee.single.read b)
def wideDr (b : Nat) : Nat := if isNan .f32 b then 1 else 0
def cwide (b : Nat) : Nat := if isNan .f32 b then qnan .f64 else Ieee.double.write (Ieee.single.read b)

theorem canon_wide (b : Nat) (w : World) : canon .f64 (wide b w) = cwide (canon .f32 b) := by
  unfold wide cwide
  rw [isNan_canon]
  split
  · exact canon_nan (cut_nanConv .f64 b _).1
  · rename_i h
    rw [canon_num (k := .f32) (by simpa using h)]
    exact canon_num (write_num _ _ (by simpa [isNan, FloatKind.format] using h))
theorem wide_lt (b : Nat) (w : World) : wide b w < 2 ^ 64 := by
  unfold wide
  split
  · exact (cut_nanConv .f64 b _).2
  · exact Ieee.double.write_lt _

theorem ftf_number {src dst : FloatKind} {b : Nat} {s : Bool} {m : Nat} {e : Int} (hne : src ≠ dst) (hr : src.decode b = .number s m e) (hf : (dst.decode (dst.encode (.number s m e))).isInfinity = false) :
    floatToFloatBits src b dst = some (dst.encode (.number s m e)) := by
  unfold floatToFloatBits
  rw [if_neg hne]
  simp [hr, hf]
theorem ftf_infinity {src dst : FloatKind} {b : Nat} {s : Bool} (hne : src ≠ dst) (hr : src.decode b = .infinity s) :
    floatToFloatBits src b dst = some (dst.encode (.infinity s)) := by
  unfold floatToFloatBits
  rw [if_neg hne]
  simp [hr]

section
variable {P : Program} (w : World)
theorem run_widen (src dst : TypeId) (b : Nat) (hs : P.underlying src = some (.float .f32)) (hd : P.underlying dst = some (.float .f64)) :
    (convert src dst (.float .f32 b)).run P w = .ok (.float .f64 (wide b w)) (w.drewN (wideDr b)) := by
  cases hr : Ieee.single.read b with
  | nan s t =>
    have hn : isNan .f32 b = true := by unfold isNan; show (Ieee.single.read b).isNaN = true; rw [hr]; rfl
    have hr' : FloatKind.f32.decode b = .nan s t := hr
    simp [convert, run_underlying hs, run_underlying hd, Conv.floatToFloat, hr', wide, wideDr, hn, choose, Sem.run, Question.forced, World.drewN]
  | infinity s =>
    have hn : isNan .f32 b = false := by unfold isNan; show (Ieee.single.read b).isNaN = false; rw [hr]; rfl
    rw [run_convert_float_float w src dst .f32 .f64 b (wide b w) (by rw [hs]; rfl) hd (by
      rw [ftf_infinity (src := .f32) (dst := .f64) (by decide) hr]; simp [wide, hn, hr, FloatKind.encode, FloatKind.format])]
    simp [wideDr, hn, World.drewN_zero]
  | number s m e =>
    have hn : isNan .f32 b = false := by unfold isNan; show (Ieee.single.read b).isNaN = false; rw [hr]; rfl
    have hf := widen_fin hr
    rw [run_convert_float_float w src dst .f32 .f64 b (wide b w) (by rw [hs]; rfl) hd (by
      rw [ftf_number (src := .f32) (dst := .f64) (by decide) hr hf]; simp [wide, hn, hr, FloatKind.encode, FloatKind.format])]
    simp [wideDr, hn, World.drewN_zero]

/-- a 64-bit number as a 32-bit one: too great a number is left open by the model -/
def tooBig (b : Nat) : Bool := match Ieee.double.read b with | .number s m e => (Ieee.single.read (Ieee.single.write (.number s m e))).isInfinity | _ => false
def narrow (b : Nat) (w : World) : Nat :=
  if isNan .f64 b then (Question.nanConv .f32 b).cut (w.tape w.drawn (.nanConv .f32 b))
  else if tooBig b then (Question.floatToFloat b).cut (w.tape w.drawn (.floatToFloat b))
  else Ieee.single.write (Ieee.double.read b)
def narrowDr (b : Nat) : Nat := if isNan .f64 b || tooBig b then 1 else 0
def cnarrow (b : Nat) : Nat := if isNan .f64 b then qnan .f32 else Ieee.single.write (Ieee.double.read b)

theorem canon_narrow {b : Nat} (w : World) (h : tooBig b = false) : canon .f32 (narrow b w) = cnarrow (canon .f64 b) := by
  unfold narrow cnarrow
  rw [isNan_canon]
  split
  · exact canon_nan (cut_nanConv .f32 b _).1
  · rename_i hn
    rw [h]
    simp only [Bool.false_eq_true, if_false]
    rw [canon_num (k := .f64) (by simpa using hn)]
    exact canon_num (write_num _ _ (by simpa [isNan, FloatKind.format] using hn))
theorem narrow_lt (b : Nat) : narrow b w < 2 ^ 32 := by
  unfold narrow
  split
  · exact (cut_nanConv .f32 b _).2
  · split
    · exact Nat.mod_lt _ (by decide)
    · exact Ieee.single.write_lt _

theorem run_narrow (src dst : TypeId) (b : Nat) (hs : P.underlying src = some (.float .f64)) (hd : P.underlying dst = some (.float .f32)) :
    (convert src dst (.float .f64 b)).run P w = .ok (.float .f32 (narrow b w)) (w.drewN (narrowDr b)) := by
  cases hr : Ieee.double.read b with
  | nan s t =>
    have hn : isNan .f64 b = true := by unfold isNan; show (Ieee.double.read b).isNaN = true; rw [hr]; rfl
    have hr' : FloatKind.f64.decode b = .nan s t := hr
    simp [convert, run_underlying hs, run_underlying hd, Conv.floatToFloat, hr', narrow, narrowDr, hn, choose, Sem.run, Question.forced, World.drewN]
  | infinity s =>
    have hn : isNan .f64 b = false := by unfold isNan; show (Ieee.double.read b).isNaN = false; rw [hr]; rfl
    have ht : tooBig b = false := by unfold tooBig; rw [hr]
    rw [run_convert_float_float w src dst .f64 .f32 b (narrow b w) (by rw [hs]; rfl) hd (by
      rw [ftf_infinity (src := .f64) (dst := .f32) (by decide) hr]; simp [narrow, hn, ht, hr, FloatKind.encode, FloatKind.format])]
    simp [narrowDr, hn, ht, World.drewN_zero]
  | number s m e =>
    have hn : isNan .f64 b = false := by unfold isNan; show (Ieee.double.read b).isNaN = false; rw [hr]; rfl
    have hr' : FloatKind.f64.decode b = .number s m e := hr
    by_cases ht : tooBig b = true
    · have ht' := ht
      unfold tooBig at ht'; rw [hr] at ht'
      simp only at ht'
      have ht2 : (FloatKind.f32.decode (FloatKind.f32.encode (.number s m e))).isInfinity = true := ht'
      simp [convert, run_underlying hs, run_underlying hd, Conv.floatToFloat, hr', narrow, narrowDr, hn, ht, ht2, choose, Sem.run, Question.forced, World.drewN]
    · have ht : tooBig b = false := by simpa using ht
      have ht' := ht
      unfold tooBig at ht'; rw [hr] at ht'
      rw [run_convert_float_float w src dst .f64 .f32 b (narrow b w) (by rw [hs]; rfl) hd (by
        rw [ftf_number (src := .f64) (dst := .f32) (by decide) hr ht']; simp [narrow, hn, ht, hr, FloatKind.encode, FloatKind.format])]
      simp [narrowDr, hn, ht, World.drewN_zero]
end

/-! comparisons -/
theorem datum_order_refl (d : Datum) (h : d.isNaN = false) : d.order d = some .eq := by
  cases d with
  | nan s t => cases h
  | infinity s => cases s <;> rfl
  | number s m e => simp [Datum.order]
theorem order_refl {k : FloatKind} {x : Nat} (h : isNan k x = false) : k.format.order x x = some .eq := datum_order_refl _ h
theorem order_self (k : FloatKind) (x : Nat) : (k.format.order x x == some .eq) = !isNan k x := by
  cases h : isNan k x
  · rw [order_refl h]; rfl
  · rw [order_isNan_l _ h]; rfl
theorem order_self_ne (k : FloatKind) (x : Nat) : (k.format.order x x != some .eq) = isNan k x := by
  rw [bne, order_self]; simp

theorem isNan32 (x : Nat) : isNan .f32 x = decide (2139095040 < x % 2147483648) := by
  unfold isNan FloatKind.format Format.read
  simp only [single_bin, single_inf, single_sw]
  split
  · exact (decide_eq_false (by omega)).symm
  · split
    · exact (decide_eq_false (by omega)).symm
    · split
      · exact (decide_eq_false (by omega)).symm
      · exact (decide_eq_true (by omega)).symm
theorem isNan64 (x : Nat) : isNan .f64 x = decide (9218868437227405312 < x % 9223372036854775808) := by
  unfold isNan FloatKind.format Format.read
  simp only [double_bin, double_inf, double_sw]
  split
  · exact (decide_eq_false (by omega)).symm
  · split
    · exact (decide_eq_false (by omega)).symm
    · split
      · exact (decide_eq_false (by omega)).symm
      · exact (decide_eq_true (by omega)).symm

theorem canon32_lt {x : Nat} (h : x < 4294967296) : canon .f32 x < 4294967296 := by unfold canon; split <;> simp [qnan, h]

/-- finite -/
def fin32 (x : Nat) : Bool := decide (x % 2147483648 < 2139095040)

theorem read32_fin {x : Nat} (h : fin32 x = true) : ∃ s m e, Ieee.single.read x = .number s m e := by
  unfold fin32 at h
  simp only [decide_eq_true_eq] at h
  unfold Format.read
  simp only [single_bin, single_inf, single_sw]
  split
  · exact ⟨_, _, _, rfl⟩
  · exact ⟨_, _, _, rfl⟩
theorem read32_inf {x : Nat} (h : x % 2147483648 = 2139095040) : ∃ s, Ieee.single.read x = .infinity s := by
  unfold Format.read
  simp only [single_bin, single_inf, single_sw]
  rw [if_neg (by omega), if_neg (by omega), if_pos h]
  exact ⟨_, rfl⟩

theorem sub_self_fin {x : Nat} (h : fin32 x = true) : floatBits .sub .f32 x x = some 0 := by
  obtain ⟨s, m, e, hr⟩ := read32_fin h
  unfold floatBits Format.sub FloatKind.format
  simp only [hr, Datum.opposite, Datum.sum]
  have : signed s m (e - min e e).toNat + signed (!s) m (e - min e e).toNat = 0 := by
    unfold signed; cases s <;> simp <;> omega
  rw [this]
  cases s <;> rfl
theorem sub_self_inf {x : Nat} (h : x % 2147483648 = 2139095040) : floatBits .sub .f32 x x = none := by
  obtain ⟨s, hr⟩ := read32_inf h
  unfold floatBits Format.sub FloatKind.format
  simp only [hr, Datum.opposite, Datum.sum]
  cases s <;> rfl
theorem order_zero_zero : (FloatKind.f32.format.order 0 0 == some .eq) = true := by decide +kernel

theorem finite_test (x : Nat) (w : World) : (FloatKind.f32.format.order (fval .sub .f32 x x w) 0 == some .eq) = fin32 x := by
  by_cases h : fin32 x = true
  · rw [h, fval, sub_self_fin h]; exact order_zero_zero
  · have h' : fin32 x = false := by simpa using h
    have hn : floatBits .sub .f32 x x = none := by
      by_cases hi : x % 2147483648 = 2139095040
      · exact sub_self_inf hi
      · refine floatBits_nan_l _ _ ?_
        rw [isNan32]
        simp only [fin32, decide_eq_false_iff_not] at h'
        simp only [decide_eq_true_eq]
        omega
    rw [h', order_isNan_l]
    · rfl
    · rw [fval, hn]; exact (cut_nanBits .f32 x x _).1

/-- a number against zero -/
theorem read_mag {x : Nat} (h : fin32 x = true) : ∃ m e, Ieee.single.read x = .number (x / 2147483648 % 2 == 1) m e ∧ (m = 0 ↔ x % 2147483648 = 0) := by
  unfold fin32 at h
  simp only [decide_eq_true_eq] at h
  unfold Format.read
  simp only [single_bin, single_inf, single_sw]
  split
  · exact ⟨_, _, rfl, Iff.rfl⟩
  · refine ⟨_, _, rfl, ?_⟩
    constructor
    · intro h0; omega
    · intro h0; omega
theorem read_zero : Ieee.single.read 0 = .number false 0 (-149) := by decide +kernel
theorem shl_pos {m k : Nat} (h : m ≠ 0) : 0 < m <<< k := by rw [Nat.shiftLeft_eq]; exact Nat.mul_pos (Nat.pos_of_ne_zero h) (Nat.two_pow_pos _)

theorem order_zero {x : Nat} (hx : x < 4294967296) (hn : isNan .f32 x = false) :
    FloatKind.f32.format.order x 0 = some (if x % 2147483648 = 0 then .eq else if x < 2147483648 then .gt else .lt) := by
  rw [isNan32] at hn
  simp only [decide_eq_false_iff_not] at hn
  by_cases hi : x % 2147483648 = 2139095040
  · have : FloatKind.f32.format.order x 0 = (Ieee.single.read x).order (Ieee.single.read 0) := rfl
    rw [this, read_zero]
    unfold Format.read
    simp only [single_bin, single_inf, single_sw]
    rw [if_neg (by omega), if_neg (by omega), if_pos hi, if_neg (by omega)]
    by_cases hl : x < 2147483648
    · have : x / 2147483648 % 2 = 0 := by omega
      simp [Datum.order, this, hl]
    · have : x / 2147483648 % 2 = 1 := by omega
      simp [Datum.order, this, hl]
  · obtain ⟨m, e, hr, hm⟩ := read_mag (x := x) (by simp [fin32]; omega)
    have : FloatKind.f32.format.order x 0 = (Ieee.single.read x).order (Ieee.single.read 0) := rfl
    rw [this, read_zero, hr]
    simp only [Datum.order]
    by_cases h0 : x % 2147483648 = 0
    · rw [if_pos h0]
      have : m = 0 := hm.2 h0
      subst this
      simp [signed]
    · rw [if_neg h0]
      have hm0 : m ≠ 0 := fun h => h0 (hm.1 h)
      have hp := shl_pos (k := (e - min e (-149)).toNat) hm0
      unfold signed
      generalize m <<< (e - min e (-149)).toNat = M at *
      by_cases hl : x < 2147483648
      · have : x / 2147483648 % 2 = 0 := by omega
        rw [if_pos hl]
        simp only [this]
        congr 1
        simp only [Int.compare_eq_gt]
        simp
        omega
      · have : x / 2147483648 % 2 = 1 := by omega
        rw [if_neg hl]
        simp only [this]
        congr 1
        simp only [Int.compare_eq_lt]
        simp
        omega

@[go_sem] theorem run_store_float (P : Program) (w : World) (a : Addr) (m : Mode) (k : FloatKind) (b : Nat) : (store a (.float k b) m).run P w = stored P w a (.float k b) m := run_store P w a _ m rfl
@[go_sem] theorem unary_fneg (k : FloatKind) (b : Nat) : Op.unary .neg (.float k b) = pure (.float k (Op.negFloat k b)) := rfl
@[go_sem] theorem run_fadd {P : Program} (w : World) (t : TypeId) (k : FloatKind) (x y : Nat) : (binOp .add t (.float k x) (.float k y)).run P w = .ok (.float k (fval .add k x y w)) (w.drewN (fdr .add k x y)) := run_fop w .add (.inl rfl) t k x y
@[go_sem] theorem run_fsub {P : Program} (w : World) (t : TypeId) (k : FloatKind) (x y : Nat) : (binOp .sub t (.float k x) (.float k y)).run P w = .ok (.float k (fval .sub k x y w)) (w.drewN (fdr .sub k x y)) := run_fop w .sub (.inr (.inl rfl)) t k x y
@[go_sem] theorem run_fmul {P : Program} (w : World) (t : TypeId) (k : FloatKind) (x y : Nat) : (binOp .mul t (.float k x) (.float k y)).run P w = .ok (.float k (fval .mul k x y w)) (w.drewN (fdr .mul k x y)) := run_fop w .mul (.inr (.inr (.inl rfl))) t k x y
@[go_sem] theorem run_fquo {P : Program} (w : World) (t : TypeId) (k : FloatKind) (x y : Nat) : (binOp .quo t (.float k x) (.float k y)).run P w = .ok (.float k (fval .quo k x y w)) (w.drewN (fdr .quo k x y)) := run_fop w .quo (.inr (.inr (.inr rfl))) t k x y
/-! bits in a walk's own spelling -/
theorem and_31 (x : Nat) : x &&& 2147483647 = x % 2147483648 := Nat.and_two_pow_sub_one_eq_mod x 31
theorem isNan32_gt (x : Nat) : isNan .f32 x = decide (2139095040 < x &&& 2147483647) := by rw [and_31, isNan32]
theorem order_fval_l (op : BinOp) (k : FloatKind) (x y z : Nat) (w : World) : k.format.order (fval op k x y w) z = k.format.order (cop op k (canon k x) (canon k y)) z := by
  rw [← order_canon, canon_fval, ← order_canon k (cop _ _ _ _) z, ← canon_fval op k x y w, canon_canon]
theorem order_fval_r (op : BinOp) (k : FloatKind) (x y z : Nat) (w : World) : k.format.order z (fval op k x y w) = k.format.order z (cop op k (canon k x) (canon k y)) := by
  rw [← order_canon, canon_fval, ← order_canon k z (cop _ _ _ _), ← canon_fval op k x y w, canon_canon]

end Go.Proofs.YtpfbhckmpkiijaaDoor
