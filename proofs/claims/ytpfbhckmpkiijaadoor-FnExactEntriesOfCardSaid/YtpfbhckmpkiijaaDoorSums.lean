/-
  What the sums of lists return: their steps on one pattern for all not-a-numbers, in their orders. Conditions: the list's elements can be read.
-/
import Derived.Test.YtpfbhckmpkiijaaDoorBits
import Derived.Deep.QuietTactic
import Derived.BigQuiet
import Derived.BigRegion
import Derived.Deep.RegionWith
namespace Go.Proofs.YtpfbhckmpkiijaaDoor
open Go.RowKit

/-- a float is returned whose canonical bits are v; the world has at most drawn -/
def RetF (k : FloatKind) (v : Nat) (w : World) (e : Ending) (w' : World) : Prop := ∃ r n, canon k r = v ∧ r < 2 ^ k.format.width ∧ e = .returned (.float k r) ∧ w' = w.drewN n
/-- .. and true beside it -/
def RetFT (k : FloatKind) (v : Nat) (w : World) (e : Ending) (w' : World) : Prop := ∃ r n, canon k r = v ∧ r < 2 ^ k.format.width ∧ e = .returned (.tuple #[.float k r, .bool true]) ∧ w' = w.drewN n

def csum (zs : List Nat) : Nat := zs.foldl (fun s z => cop .add .f32 s (canon .f32 z)) 0
theorem canon_zero : canon .f32 0 = 0 := by decide +kernel
theorem csum_nil : csum [] = 0 := rfl
theorem take_snoc (zs : List Nat) (k : Nat) (h : k < zs.length) : zs.take (k + 1) = zs.take k ++ [zs.getD k 0] := by
  rw [List.take_succ_eq_append_getElem h]; simp [List.getD, h]
theorem csum_snoc (zs : List Nat) (k r : Nat) (w : World) (h : k < zs.length) (hr : canon .f32 r = csum (zs.take k)) : canon .f32 (fval .add .f32 r (zs.getD k 0) w) = csum (zs.take (k + 1)) := by
  rw [canon_fval, hr, take_snoc zs k h]
  unfold csum
  rw [List.foldl_append]
  rfl

/-- the loop of a sum -/
def SumRel (zs : List Nat) (w : World) (s i : Value) (wr : World) : Prop :=
  ∃ k r n : Nat, k ≤ zs.length ∧ i = .int .i64 k ∧ s = .float .f32 r ∧ canon .f32 r = csum (zs.take k) ∧ r < 2 ^ 32 ∧ wr = w.drewN n


theorem IsFloats.kept {k : FloatKind} {w w' : World} {a : Option Addr} {len cap : Nat} {zs : List Nat} (h : IsFloats k w a len cap zs) (hb : Below w.heap.size w w') : IsFloats k w' a len cap zs := by
  obtain ⟨h1, h2, h3, h4, h5⟩ := h
  refine ⟨h1, h2, h3, h4, ?_⟩
  rcases h5 with h0 | ⟨b, off, ha, hlt, hc⟩
  · exact .inl h0
  · refine .inr ⟨b, off, ha, Nat.lt_of_lt_of_le hlt hb.size, fun i hi => ?_⟩
    rw [hb.cell (p := ⟨b, off + i, none⟩) hlt]
    exact hc i hi

theorem info_f32 : (Tryd.prog.info? 34).map (fun i => (i.zero, i.size, i.bytes)) = some (some (.float .f32 0), 1, 4) := by kernel_rfl

/-- the cells of a copy, k of them written -/
def copied (zs : List Nat) (k n : Nat) : List Value := (zs.take k).map (Value.float .f32) ++ List.replicate (n - k) (Value.float .f32 0)
theorem copied_set (zs : List Nat) (k n : Nat) (hn : zs.length = n) (hk : k < n) : (copied zs k n).set k (.float .f32 (zs.getD k 0)) = copied zs (k + 1) n := by
  unfold copied
  have hl : ((zs.take k).map (Value.float .f32)).length = k := by simp; omega
  rw [List.set_append_right _ _ (by omega), hl, Nat.sub_self, take_snoc zs k (by omega), List.map_append, List.append_assoc]
  congr 1
  obtain ⟨m, hm⟩ : ∃ m, n - k = m + 1 := ⟨n - k - 1, by omega⟩
  rw [hm, List.replicate_succ, List.set_cons_zero, show n - (k + 1) = m by omega]
  rfl
theorem copied_all (zs : List Nat) : copied zs zs.length zs.length = zs.map (Value.float .f32) := by
  unfold copied; simp

def CopyRel (zs : List Nat) (B : Nat) (w : World) (i : Value) (wr : World) : Prop :=
  ∃ k : Nat, k ≤ zs.length ∧ i = .int .i64 k ∧ wr.ownsRow B 34 1 (.slice (some ⟨B, 0, none⟩) zs.length zs.length) zs.length (copied zs k zs.length) ∧ Below B w wr ∧ B < wr.heap.size
def RetCopy (zs : List Nat) (w : World) (e : Ending) (w' : World) : Prop :=
  e = .returned (.slice (some ⟨w.heap.size, 0, none⟩) zs.length zs.length) ∧ IsFloats .f32 w' (some ⟨w.heap.size, 0, none⟩) zs.length zs.length zs ∧ Below w.heap.size w w' ∧ w.heap.size < w'.heap.size


/-- a function that fails -/
def RetNo (k : FloatKind) (w : World) (e : Ending) (w' : World) : Prop := e = .returned (.tuple #[.float k 0, .bool false]) ∧ w = w'
end Go.Proofs.YtpfbhckmpkiijaaDoor
