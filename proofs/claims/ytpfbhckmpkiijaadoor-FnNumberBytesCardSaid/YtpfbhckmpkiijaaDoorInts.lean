/-
  Words for lists of int64 that a call made: compared, marked, looked at again. Conditions: the elements can be read.
-/
import Derived.Test.YtpfbhckmpkiijaaDoorTens
namespace Go.Proofs.YtpfbhckmpkiijaaDoor
open Go.RowKit

def toV (z : Int) : Value := .int .i64 z
/-- a row of integers that the call made -/
def OwnI (w : World) (B : Nat) (a : Option Addr) (cap : Nat) (ys : List Int) : Prop :=
  w.ownsRow B 2 1 (.slice a ys.length cap) ys.length (ys.map toV) ∧ (∀ y ∈ ys, (Lit.int .i64 y).wf = true)
theorem OwnI.cap_ok {w : World} {B : Nat} {a : Option Addr} {cap : Nat} {ys : List Int} (h : OwnI w B a cap ys) : ys.length ≤ cap ∧ cap ≤ maxLen := by
  rcases h.1.2 with ⟨hv, h0⟩ | ⟨g, c, cur, hv, _, _, h1, h2, _⟩
  · simp only [Value.slice.injEq] at hv
    omega
  · simp only [Value.slice.injEq] at hv
    omega
theorem OwnI.isRow {w : World} {B : Nat} {a : Option Addr} {cap : Nat} {ys : List Int} (h : OwnI w B a cap ys) : IsRow .i64 w a ys.length cap ys := by
  refine ⟨h.cap_ok.1, h.cap_ok.2, rfl, h.2, ?_⟩
  rcases h.1.2 with ⟨hv, h0⟩ | ⟨g, c, cur, hv, _, hg, h1, h2, h3, h4⟩
  · exact .inl h0
  · simp only [Value.slice.injEq] at hv
    obtain ⟨rfl, _, rfl⟩ := hv
    refine .inr ⟨g, 0, rfl, (Array.getElem?_eq_some_iff.1 hg).1, fun i hi => ?_⟩
    rw [Nat.zero_add, h.1.cellAt i (by omega)]
    simp [List.getD, hi, toV]
theorem OwnI.kept {w w' : World} {B : Nat} {a : Option Addr} {cap : Nat} {ys : List Int} (h : OwnI w B a cap ys) (hb : Below w.heap.size w w') : OwnI w' B a cap ys :=
  ⟨h.1.kept (row := none) ⟨hb.os, hb.tape, hb.output, hb.size, fun j hj _ => hb.block j hj⟩ (by cases hv : Value.ownBlock (.slice a ys.length cap) <;> simp), h.2⟩
theorem OwnI.base {w : World} {B B' : Nat} {a : Option Addr} {cap : Nat} {ys : List Int} (h : OwnI w B a cap ys) (hb : B' ≤ B) : OwnI w B' a cap ys := by
  refine ⟨⟨h.1.1, ?_⟩, h.2⟩
  rcases h.1.2 with h' | ⟨g, c, cur, hv, hB, r⟩
  · exact .inl h'
  · exact .inr ⟨g, c, cur, hv, by omega, r⟩
theorem OwnI.lt {w : World} {B : Nat} {a : Option Addr} {cap : Nat} {ys : List Int} (h : OwnI w B a cap ys) : ∀ g, blk a = some g → B ≤ g ∧ g < w.heap.size := by
  intro g hg
  refine h.1.lt g ?_
  cases a with
  | none => cases hg
  | some p => simpa [blk, Value.ownBlock] using hg
theorem OwnI.apart {w w' : World} {B : Nat} {a b : Option Addr} {cap : Nat} {ys : List Int} (h : OwnI w B a cap ys) (hg : w.grownBy w' (blk b)) (hne : ∀ g, blk a = some g → blk b ≠ some g) : OwnI w' B a cap ys := by
  refine ⟨h.1.kept hg ?_, h.2⟩
  rw [ownBlock_slice]
  cases ha : blk a with
  | none => exact .inl rfl
  | some g => exact .inr (fun e => hne g ha e.symm)
theorem OwnI.lenle {w : World} {B : Nat} {a : Option Addr} {cap : Nat} {ys zs : List Int} (_ : OwnI w B a cap ys) (he : ys = zs) {n : Nat} (hz : zs.length ≤ n) : ys.length ≤ n := by
  rw [he]; exact hz
theorem Blk.apartI {w w' : World} {g : Nat} {t : TypeId} {cs : Array Value} {B : Nat} {a : Option Addr} {cap : Nat} {ys : List Int} (h : Blk w g t cs) (hg : w.grownBy w' (blk a)) (ho : OwnI w B a cap ys) (ht : t ≠ 2) : Blk w' g t cs := by
  refine (hg.block g h.lt ?_).trans h
  intro e
  rcases ho.1.2 with ⟨hv, _⟩ | ⟨g', c, cur, hv, _, hh, _⟩
  · simp only [Value.slice.injEq] at hv
    rw [hv.1] at e
    cases e
  · simp only [Value.slice.injEq] at hv
    rw [hv.1] at e
    simp only [blk, Option.map_some, Option.some.injEq] at e
    subst e
    unfold Blk at h
    rw [h] at hh
    simp only [Option.some.injEq, Obj.cells.injEq] at hh
    exact ht hh.2.1
theorem nil_ownI (w : World) (B : Nat) : OwnI w B none 0 [] := ⟨World.ownsRow_nil _ _ _ _, fun _ h => by cases h⟩
def RetI (b : Bool) (zs : List Int) (w : World) (e : Ending) (w' : World) : Prop :=
  ∃ a cap ys, e = .returned (.tuple #[.slice a ys.length cap, .bool b]) ∧ OwnI w' w.heap.size a cap ys ∧ ys = zs ∧ Below w.heap.size w w'
end Go.Proofs.YtpfbhckmpkiijaaDoor
