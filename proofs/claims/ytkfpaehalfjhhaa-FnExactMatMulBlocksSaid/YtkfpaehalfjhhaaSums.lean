/-
  What the sums of lists return: their steps on one pattern for all not-a-numbers, in their orders. Conditions: the list's elements can be read.
-/
import Derived.Test.YtkfpaehalfjhhaaBits
import Derived.Deep.QuietTactic
import Derived.BigQuiet
import Derived.BigRegion
import Derived.Deep.RegionWith
namespace Go.Proofs.Ytkfpaehalfjhhaa
open Go.RowKit

/-- a float is returned whose canonical bits are v; the world has at most drawn -/
def RetF (k : FloatKind) (v : Nat) (w : World) (e : Ending) (w' : World) : Prop := ∃ r n, canon k r = v ∧ r < 2 ^ k.format.width ∧ e = .returned (.float k r) ∧ w' = w.drewN n
/-- .. and true beside it -/
def RetFT (k : FloatKind) (v : Nat) (w : World) (e : Ending) (w' : World) : Prop := ∃ r n, canon k r = v ∧ r < 2 ^ k.format.width ∧ e = .returned (.tuple #[.float k r, .bool true]) ∧ w' = w.drewN n

def csum (zs : List Nat) : Nat := zs.foldl (fun s z => cop .add .f32 s (canon .f32 z)) 0
theorem canon_zero : canon .f32 0 = 0 := by decide +kernel
theorem csum_nil : csum [] = 0 := rfl
theorem take_snoc (zs : List Nat) (k : Nat) (h : k < zs.length) : zs.take (k + 1) = zs.take k ++ [zs.getD k 0] := by
  rw [List.take_succ_eq_append_getElem h]; simp [List.getD, h]
theorem csum_snoc (zs : List Nat) (k r : Nat) (w : World) (h : k < zs.length) (hr : canon .f32 r = csum (zs.take k)) : canon .f32 (fval .add .f32 r (zs.getD k 0) w) = csum (zs.take (k + 1)) := by
  rw [canon_fval, hr, take_snoc zs k h]
  unfold csum
  rw [List.foldl_append]
  rfl

/-- the loop of a sum -/
def SumRel (zs : List Nat) (w : World) (s i : Value) (wr : World) : Prop :=
  ∃ k r n : Nat, k ≤ zs.length ∧ i = .int .i64 k ∧ s = .float .f32 r ∧ canon .f32 r = csum (zs.take k) ∧ r < 2 ^ 32 ∧ wr = w.drewN n

theorem c_l01Sum (a : Option Addr) (len cap : Nat) (zs : List Nat) (w : World) (h : IsFloats .f32 w a len cap zs) : Calls Try.prog 103 #[.slice a len cap] w (RetF .f32 (csum zs) w) := by
  obtain ⟨h1, h2, h3, h4, h5⟩ := h
  unfold maxLen at h2
  have hlen : len ≤ 9223372036854775807 := by omega
  have H3 := Lib.hid h3
  have H4 := Lib.hid h4
  have H5 := Lib.hid h5
  clear h3 h4 h5 h1 h2
  go_enter Try.func103, Try.ntmps103
  go_wp2
  go_loopw [3, 4] (fun s i wr => SumRel zs w s i wr) (fun _ i _ => len - (intOf i).toNat)
  case atStart => exact ⟨0, 0, 0, Nat.zero_le _, rfl, rfl, by rw [canon_zero]; rfl, by decide, rfl⟩
  case round =>
    obtain ⟨k, r, n, hk, rfl, rfl, hr, hr2, rfl⟩ := hrel
    have HR := Lib.hid hr
    have HR2 := Lib.hid hr2
    rw [H3.out] at hk
    clear hr hr2
    by_cases hlt : k < len
    · rcases H5.out with h0 | ⟨b, off, ha, _, hc⟩
      · omega
      · subst ha
        have hcell := hc k hlt
        clear hc
        go_wp2
        go_roundw
        case rel => exact ⟨k + 1, _, _, by rw [H3.out]; omega, by go_num, rfl, csum_snoc zs k r _ (by rw [H3.out]; exact hlt) HR.out, fval_lt .add .f32 _ _ _, rfl⟩
        case measure => simp [intOf]; omega
    · go_wp2
      go_ret
      exact ⟨r, _, by rw [HR.out, List.take_of_length_le (by rw [H3.out]; omega)], HR2.out, rfl, rfl⟩

theorem IsFloats.kept {k : FloatKind} {w w' : World} {a : Option Addr} {len cap : Nat} {zs : List Nat} (h : IsFloats k w a len cap zs) (hb : Below w.heap.size w w') : IsFloats k w' a len cap zs := by
  obtain ⟨h1, h2, h3, h4, h5⟩ := h
  refine ⟨h1, h2, h3, h4, ?_⟩
  rcases h5 with h0 | ⟨b, off, ha, hlt, hc⟩
  · exact .inl h0
  · refine .inr ⟨b, off, ha, Nat.lt_of_lt_of_le hlt hb.size, fun i hi => ?_⟩
    rw [hb.cell (p := ⟨b, off + i, none⟩) hlt]
    exact hc i hi

theorem info_f32 : (Try.prog.info? 46).map (fun i => (i.zero, i.size, i.bytes)) = some (some (.float .f32 0), 1, 4) := by kernel_rfl

/-- the cells of a copy, k of them written -/
def copied (zs : List Nat) (k n : Nat) : List Value := (zs.take k).map (Value.float .f32) ++ List.replicate (n - k) (Value.float .f32 0)
theorem copied_set (zs : List Nat) (k n : Nat) (hn : zs.length = n) (hk : k < n) : (copied zs k n).set k (.float .f32 (zs.getD k 0)) = copied zs (k + 1) n := by
  unfold copied
  have hl : ((zs.take k).map (Value.float .f32)).length = k := by simp; omega
  rw [List.set_append_right _ _ (by omega), hl, Nat.sub_self, take_snoc zs k (by omega), List.map_append, List.append_assoc]
  congr 1
  obtain ⟨m, hm⟩ : ∃ m, n - k = m + 1 := ⟨n - k - 1, by omega⟩
  rw [hm, List.replicate_succ, List.set_cons_zero, show n - (k + 1) = m by omega]
  rfl
theorem copied_all (zs : List Nat) : copied zs zs.length zs.length = zs.map (Value.float .f32) := by
  unfold copied; simp

def CopyRel (zs : List Nat) (B : Nat) (w : World) (i : Value) (wr : World) : Prop :=
  ∃ k : Nat, k ≤ zs.length ∧ i = .int .i64 k ∧ wr.ownsRow B 46 1 (.slice (some ⟨B, 0, none⟩) zs.length zs.length) zs.length (copied zs k zs.length) ∧ Below B w wr ∧ B < wr.heap.size
def RetCopy (zs : List Nat) (w : World) (e : Ending) (w' : World) : Prop :=
  e = .returned (.slice (some ⟨w.heap.size, 0, none⟩) zs.length zs.length) ∧ IsFloats .f32 w' (some ⟨w.heap.size, 0, none⟩) zs.length zs.length zs ∧ Below w.heap.size w w' ∧ w.heap.size < w'.heap.size

set_option maxHeartbeats 400000 in
theorem c_toFloat32S (a : Option Addr) (len cap : Nat) (zs : List Nat) (w : World) (h : IsFloats .f32 w a len cap zs) (hl : len ≤ 1048576) : Calls Try.prog 48 #[.slice a len cap] w (RetCopy zs w) := by
  obtain ⟨h1, h2, h3, h4, h5⟩ := h
  subst h3
  have hmax : zs.length ≤ maxLen := by unfold maxLen; omega
  have Hmax := Lib.hid hmax
  obtain ⟨i0, hi, hz0, hz1, hz2⟩ := info_parts info_f32
  have HI := Lib.hid hi
  have HZ0 := Lib.hid hz0
  have HZ1 := Lib.hid hz1
  have HZ2 := Lib.hid hz2
  have H4 := Lib.hid h4
  have H5 := Lib.hid h5
  clear h1 h2 h4 h5 hi hz0 hz1 hz2 hmax
  go_enter Try.func48, Try.ntmps48
  go_wp2_with (at_make; refine wpList_make_full _ rfl _ _ 22 rfl w.heap.size 46 i0 (.float .f32 0) 1 Try.underlying22 HI.out HZ0.out HZ1.out _ _ _ _ zs.length rfl rfl rfl rfl ?c1 ?c2 ?c3 ?_)
  case c1 => rw [HZ2.out]; omega
  case c2 => exact Hmax.out
  case c3 => exact Nat.le_refl _
  intro w1 hown hgrow
  have hb1 : Below w.heap.size w w1 := (Below.refl _ _).grown hgrow (Nat.le_refl _) (fun k h => by cases h)
  have hlt1 : w.heap.size < w1.heap.size := (hown.lt _ rfl).2
  rw [toList_madeCells_one] at hown
  have HO := Lib.hid hown
  have HB := Lib.hid hb1
  have HL := Lib.hid hlt1
  have HW := Lib.hid (show w.heap.size = w.heap.size from rfl)
  clear hown hb1 hlt1 hgrow
  go_wp2
  go_loopw [4] (fun i wr => CopyRel zs w.heap.size w i wr) (fun i _ => zs.length - (intOf i).toNat)
  case atStart => exact ⟨0, Nat.zero_le _, rfl, by simpa [copied] using HO.out, HB.out, HL.out⟩
  case round =>
    obtain ⟨k, hk, rfl, ho, hb, hlt'⟩ := hrel
    have HO' := Lib.hid ho
    have HB' := Lib.hid hb
    have HL' := Lib.hid hlt'
    clear ho hb hlt'
    by_cases hlt : k < zs.length
    · rcases H5.out with h0 | ⟨b, off, ha, hbl, hc⟩
      · omega
      · subst ha
        have hcell : wr.cell? ⟨b, off + k, none⟩ = some (.float .f32 (zs.getD k 0)) := by rw [HB'.out.cell (p := ⟨b, off + k, none⟩) hbl]; exact hc k hlt
        obtain ⟨z, hz⟩ : ∃ z, zs.getD k 0 = z := ⟨_, rfl⟩
        rw [hz] at hcell
        have HZ := Lib.hid hz
        clear hz
        have hfz : wr.frozen? ⟨w.heap.size, k, none⟩ = false := HO'.out.frozenAt k
        obtain ⟨v0, hv0⟩ : ∃ v, wr.cell? ⟨w.heap.size, k, none⟩ = some v := by
          rw [HO'.out.cellAt k (by omega)]
          exact ⟨_, List.getElem?_eq_getElem (by rw [HO'.out.1]; omega)⟩
        clear hc
        go_wp2
        go_roundw
        case rel =>
          obtain ⟨o1, o2⟩ := HO'.out.stored k (.float .f32 z)
          rw [← HZ.out, copied_set zs k zs.length rfl hlt] at o1
          exact ⟨k + 1, by omega, by go_num, by rw [← HZ.out]; exact o1, HB'.out.setCell (p := ⟨w.heap.size, k, none⟩) (Nat.le_refl _) _, by simpa using HL'.out⟩
        case measure => simp [intOf]; omega
    · obtain rfl : k = zs.length := by omega
      go_wp2
      go_ret
      have ho := HO'.out
      rw [copied_all] at ho
      refine ⟨rfl, ⟨Nat.le_refl _, Hmax.out, rfl, H4.out, .inr ⟨w.heap.size, 0, rfl, HL'.out, fun i hi => ?_⟩⟩, HB'.out, HL'.out⟩
      rw [Nat.zero_add, ho.cellAt i (by omega)]
      simp [List.getD, hi]

/-- a function that fails -/
def RetNo (k : FloatKind) (w : World) (e : Ending) (w' : World) : Prop := e = .returned (.tuple #[.float k 0, .bool false]) ∧ w = w'
set_option maxHeartbeats 400000 in
theorem c_inOrder (a : Option Addr) (len cap : Nat) (zs : List Nat) (w : World) (h : IsFloats .f32 w a len cap zs) : Calls Try.prog 90 #[.slice a len cap] w (RetF .f32 (csum zs) w) := by
  obtain ⟨h1, h2, h3, h4, h5⟩ := h
  unfold maxLen at h2
  have hlen : len ≤ 9223372036854775807 := by omega
  have H3 := Lib.hid h3
  have H4 := Lib.hid h4
  have H5 := Lib.hid h5
  clear h3 h4 h5 h1 h2
  go_enter Try.func90, Try.ntmps90
  go_wp2
  go_loopw [3, 8] (fun s i wr => SumRel zs w s i wr) (fun _ i _ => len - (intOf i).toNat)
  case atStart => exact ⟨0, 0, 0, Nat.zero_le _, rfl, rfl, by rw [canon_zero]; rfl, by decide, rfl⟩
  case round =>
    obtain ⟨k, r, n, hk, rfl, rfl, hr, hr2, rfl⟩ := hrel
    have HR := Lib.hid hr
    have HR2 := Lib.hid hr2
    rw [H3.out] at hk
    clear hr hr2
    by_cases hlt : k < len
    · rcases H5.out with h0 | ⟨b, off, ha, _, hc⟩
      · omega
      · subst ha
        have hcell := hc k hlt
        clear hc
        go_wp2
        go_roundw
        case rel => exact ⟨k + 1, _, _, by rw [H3.out]; omega, by go_num, rfl, csum_snoc zs k r _ (by rw [H3.out]; exact hlt) HR.out, fval_lt .add .f32 _ _ _, rfl⟩
        case measure => simp [intOf]; omega
    · go_wp2
      go_ret
      exact ⟨r, _, by rw [HR.out, List.take_of_length_le (by rw [H3.out]; omega)], HR2.out, rfl, rfl⟩
theorem c_iSumNumbers_no (a : Option Addr) (len cap : Nat) (w : World) (h : 256 < len) : Calls Try.prog 39 #[.slice a len cap] w (RetNo .f32 w) := by
  have h' : 256 < (len : Int) := by omega
  clear h
  go_enter Try.func39, Try.ntmps39
  go_wp2
  go_ret2
  exact ⟨rfl, rfl⟩
theorem c_iSumNumbers (a : Option Addr) (len cap : Nat) (zs : List Nat) (w : World) (h : IsFloats .f32 w a len cap zs) (hl : len ≤ 256) : Calls Try.prog 39 #[.slice a len cap] w (RetFT .f32 (csum zs) w) := by
  have HC := Lib.hid (c_inOrder a len cap zs w h)
  have hlen : (len : Int) ≤ 256 := by omega
  clear h hl
  go_enter Try.func39, Try.ntmps39
  go_wp2_with fail
  refine HC.out.mono ?_
  rintro e w' ⟨r, n, hr, hrl, rfl, rfl⟩
  have HR := Lib.hid hr
  have HL := Lib.hid hrl
  clear hr hrl
  go_wp2_with fail
  go_ret2
  exact ⟨r, n, HR.out, HL.out, rfl, rfl⟩
end Go.Proofs.Ytkfpaehalfjhhaa
