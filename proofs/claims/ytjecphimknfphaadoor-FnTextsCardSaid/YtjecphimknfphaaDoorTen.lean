/-
  Words for tensors by value, and what the law's own helpers do: copies, sizes, comparing, marking and looking again. Conditions: the elements can be read.
-/
import Derived.Test.YtjecphimknfphaaDoorEqf
import Derived.Laws.OwnMore
namespace Go.Proofs.YtjecphimknfphaaDoor
open Go.RowKit

/-- a row of floats that the call made -/
def OwnF (w : World) (B : Nat) (a : Option Addr) (cap : Nat) (ys : List Nat) : Prop :=
  w.ownsRow B 41 1 (.slice a ys.length cap) ys.length (ys.map (Value.float .f32)) ∧ (∀ y ∈ ys, y < 2 ^ 32)

theorem OwnF.cap_ok {w : World} {B : Nat} {a : Option Addr} {cap : Nat} {ys : List Nat} (h : OwnF w B a cap ys) : ys.length ≤ cap ∧ cap ≤ maxLen := by
  rcases h.1.2 with ⟨hv, h0⟩ | ⟨g, c, cur, hv, _, _, h1, h2, _⟩
  · simp only [Value.slice.injEq] at hv
    omega
  · simp only [Value.slice.injEq] at hv
    omega
theorem OwnF.isFloats {w : World} {B : Nat} {a : Option Addr} {cap : Nat} {ys : List Nat} (h : OwnF w B a cap ys) : IsFloats .f32 w a ys.length cap ys := by
  refine ⟨h.cap_ok.1, h.cap_ok.2, rfl, h.2, ?_⟩
  rcases h.1.2 with ⟨hv, h0⟩ | ⟨g, c, cur, hv, _, hg, h1, h2, h3, h4⟩
  · exact .inl h0
  · simp only [Value.slice.injEq] at hv
    obtain ⟨rfl, _, rfl⟩ := hv
    refine .inr ⟨g, 0, rfl, (Array.getElem?_eq_some_iff.1 hg).1, fun i hi => ?_⟩
    rw [Nat.zero_add, h.1.cellAt i (by omega)]
    simp [List.getD, hi]
theorem OwnF.kept {w w' : World} {B : Nat} {a : Option Addr} {cap : Nat} {ys : List Nat} (h : OwnF w B a cap ys) (hb : Below w.heap.size w w') : OwnF w' B a cap ys :=
  ⟨h.1.kept (row := none) ⟨hb.os, hb.tape, hb.output, hb.size, fun j hj _ => hb.block j hj⟩ (by cases hv : Value.ownBlock (.slice a ys.length cap) <;> simp), h.2⟩
theorem OwnF.drewN {w : World} {B : Nat} {a : Option Addr} {cap : Nat} {ys : List Nat} (h : OwnF w B a cap ys) (n : Nat) : OwnF (w.drewN n) B a cap ys := h.kept (below_drewN (Below.refl _ _) n)
theorem OwnF.base {w : World} {B B' : Nat} {a : Option Addr} {cap : Nat} {ys : List Nat} (h : OwnF w B a cap ys) (hb : B' ≤ B) : OwnF w B' a cap ys := by
  refine ⟨⟨h.1.1, ?_⟩, h.2⟩
  rcases h.1.2 with h' | ⟨g, c, cur, hv, hB, r⟩
  · exact .inl h'
  · exact .inr ⟨g, c, cur, hv, by omega, r⟩
/-- a block of a slice -/
def blk (a : Option Addr) : Option Nat := a.map (·.block)
theorem OwnF.lt {w : World} {B : Nat} {a : Option Addr} {cap : Nat} {ys : List Nat} (h : OwnF w B a cap ys) : ∀ g, blk a = some g → B ≤ g ∧ g < w.heap.size := by
  intro g hg
  refine h.1.lt g ?_
  cases a with
  | none => cases hg
  | some p => simpa [blk, Value.ownBlock] using hg
theorem ownBlock_slice (a : Option Addr) (n c : Nat) : Value.ownBlock (.slice a n c) = blk a := by cases a <;> rfl
theorem OwnF.apart {w w' : World} {B : Nat} {a b : Option Addr} {cap : Nat} {ys : List Nat} (h : OwnF w B a cap ys) (hg : w.grownBy w' (blk b)) (hne : ∀ g, blk a = some g → blk b ≠ some g) : OwnF w' B a cap ys := by
  refine ⟨h.1.kept hg ?_, h.2⟩
  rw [ownBlock_slice]
  cases ha : blk a with
  | none => exact .inl rfl
  | some g => exact .inr (fun e => hne g ha e.symm)
theorem IsFloats.apart {w w' : World} {a b : Option Addr} {n cap : Nat} {ys : List Nat} (h : IsFloats .f32 w a n cap ys) (hg : w.grownBy w' (blk b)) (hne : ∀ g, blk a = some g → blk b ≠ some g) : IsFloats .f32 w' a n cap ys := by
  obtain ⟨h1, h2, h3, h4, h5⟩ := h
  refine ⟨h1, h2, h3, h4, ?_⟩
  rcases h5 with h0 | ⟨b', off, rfl, hlt, hc⟩
  · exact .inl h0
  · refine .inr ⟨b', off, rfl, Nat.lt_of_lt_of_le hlt hg.size, fun i hi => ?_⟩
    rw [World.cell?_of_block (w := w) (hg.block b' hlt (fun e => hne b' rfl e.symm))]
    exact hc i hi
theorem Below.grownBy {B : Nat} {W w w' : World} {b : Option Addr} (h : Below B W w) (hg : w.grownBy w' (blk b)) (hB : B ≤ w.heap.size) (hb : ∀ g, blk b = some g → B ≤ g) : Below B W w' := h.grown hg hB hb

theorem OwnF.new_apart {w w' : World} {B : Nat} {a a' : Option Addr} {cap cap' : Nat} {ys ys' : List Nat} (h : OwnF w B a cap ys) (h' : OwnF w' w.heap.size a' cap' ys') : ∀ g, blk a = some g → blk a' ≠ some g := by
  intro g h1 h2
  have := (h.lt g h1).2
  have := (h'.lt g h2).1
  omega
theorem lt_apart {w w' : World} {B : Nat} {a a' : Option Addr} (h : ∀ g, blk a = some g → B ≤ g ∧ g < w.heap.size) (h' : ∀ g, blk a' = some g → w.heap.size ≤ g ∧ g < w'.heap.size) : ∀ g, blk a = some g → blk a' ≠ some g := by
  intro g h1 h2
  have := (h g h1).2
  have := (h' g h2).1
  omega
theorem OwnF.lenle {w : World} {B : Nat} {a : Option Addr} {cap : Nat} {ys zs : List Nat} (_ : OwnF w B a cap ys) (he : ys.map (canon .f32) = zs) {n : Nat} (hz : zs.length ≤ n) : ys.length ≤ n := by
  rw [← he] at hz; simpa using hz


theorem grown_set {w wr w' : World} {g : Nat} (h : w.grownBy wr (some g)) (h' : wr.grownBy w' (some g)) : w.grownBy w' (some g) :=
  ⟨h'.os.trans h.os, h'.tape.trans h.tape, h'.output.trans h.output, Nat.le_trans h.size h'.size, fun k hk hne => (h'.block k (Nat.lt_of_lt_of_le hk h.size) hne).trans (h.block k hk hne)⟩
theorem grown_refl (w : World) (r : Option Nat) : w.grownBy w r := ⟨rfl, rfl, rfl, Nat.le_refl _, fun _ _ _ => rfl⟩