/-
  Words for Layer by value: reading, copying, sizes, comparing, marking and looking again. Conditions: the cells can be read.
-/
import Derived.Test.YtdgoladbkaldkaaTyd
namespace Go.Proofs.Ytdgoladbkaldkaa
open Go.RowKit
set_option linter.unusedVariables false

structure LayP where
  k : Int
  i : Int
  o : Int
  ws : List Nat
  bs : List Nat
structure LayA where
  p : LayP
  a0 : Option Addr
  c0 : Nat
  a1 : Option Addr
  c1 : Nat
def LayA.cs (x : LayA) : List Cl := [.int x.p.k, .int x.p.i, .int x.p.o, flC x.a0 x.c0 x.p.ws, flC x.a1 x.c1 x.p.bs]
def LayA.cells (x : LayA) : Array Value := #[.int .i64 x.p.k, .int .i64 x.p.i, .int .i64 x.p.o, .slice x.a0 x.p.ws.length x.c0, .slice x.a1 x.p.bs.length x.c1]
def LayP.n (p : LayP) : Nat := p.ws.length + p.bs.length
def LayP.can (p : LayP) : LayP := { p with ws := p.ws.map (canon .f32), bs := p.bs.map (canon .f32) }
theorem LayA.vs_cs (x : LayA) : vs x.cs = x.cells.toList := rfl
theorem LayA.at_iff {w : World} {x : LayA} : AtL w x.cs ↔ IsFloats .f32 w x.a0 x.p.ws.length x.c0 x.p.ws ∧ IsFloats .f32 w x.a1 x.p.bs.length x.c1 x.p.bs := by
  simp only [LayA.cs, AtL, Cl.At, flC_at, true_and, and_true]
theorem LayA.own_iff {w : World} {B : Nat} {x : LayA} : OwnL w B x.cs ↔ OwnF w B x.a0 x.c0 x.p.ws ∧ OwnF w B x.a1 x.c1 x.p.bs := by
  simp only [LayA.cs, OwnL, Cl.Own, flC_own, true_and, and_true]
theorem LayA.bl_cs (x : LayA) : blL x.cs = (blk x.a0).toList ++ (blk x.a1).toList := by
  simp [LayA.cs, blL, Cl.bl, flC_bl]
theorem LayA.nodup {x : LayA} (h01 : ∀ g, blk x.a0 = some g → blk x.a1 ≠ some g) : (blL x.cs).Nodup := by
  rw [LayA.bl_cs]
  exact nodup2 _ _ h01
theorem LayA.cs_len (x : LayA) : x.cs.length = 5 := rfl
theorem LayA.typed {l : List Cl} (h : typedL [.int, .int, .int, .sl 52 1 [.f32], .sl 52 1 [.f32]] l) : ∃ x : LayA, l = x.cs := by
  simp only [typedL, Cl.typed.eq_1] at h
  obtain ⟨c0', l0', rfl, ⟨k, rfl⟩, c1', l1', rfl, ⟨i, rfl⟩, c2', l2', rfl, ⟨o, rfl⟩, c3', l3', rfl, h3, c4', l4', rfl, h4, rfl⟩ := h
  obtain ⟨a0, c0, ws, rfl⟩ := typed_f32s h3
  obtain ⟨a1, c1, bs, rfl⟩ := typed_f32s h4
  exact ⟨⟨⟨k, i, o, ws, bs⟩, a0, c0, a1, c1⟩, rfl⟩
theorem Blk.layfz {w : World} {g : Nat} {t : TypeId} {cs : Array Value} (h : Blk w g t cs) : w.frozen? ⟨g, 0, none⟩ = false ∧ w.frozen? ⟨g, 1, none⟩ = false ∧ w.frozen? ⟨g, 2, none⟩ = false ∧ w.frozen? ⟨g, 3, none⟩ = false ∧ w.frozen? ⟨g, 4, none⟩ = false :=
  ⟨h.frozen 0, h.frozen 1, h.frozen 2, h.frozen 3, h.frozen 4⟩
theorem Blk.laybox {w : World} {g : Nat} {t : TypeId} {v0 v1 v2 v3 v4 : Value} (h : Blk w g t #[v0, v1, v2, v3, v4]) : w.cell? ⟨g, 0, none⟩ = some v0 ∧ w.cell? ⟨g, 1, none⟩ = some v1 ∧ w.cell? ⟨g, 2, none⟩ = some v2 ∧ w.cell? ⟨g, 3, none⟩ = some v3 ∧ w.cell? ⟨g, 4, none⟩ = some v4 ∧ g < w.heap.size :=
  ⟨h.cell 0, h.cell 1, h.cell 2, h.cell 3, h.cell 4, h.lt⟩
theorem store_Lay {w : World} {g : Nat} {t : TypeId} {v0 v1 v2 v3 v4 u0 u1 u2 u3 u4 : Value} (h : Blk w g t #[v0, v1, v2, v3, v4]) :
    Blk (((((w.setCell ⟨g, 0, none⟩ u0).setCell ⟨g, 1, none⟩ u1).setCell ⟨g, 2, none⟩ u2).setCell ⟨g, 3, none⟩ u3).setCell ⟨g, 4, none⟩ u4) g t #[u0, u1, u2, u3, u4] ∧ w.grownBy (((((w.setCell ⟨g, 0, none⟩ u0).setCell ⟨g, 1, none⟩ u1).setCell ⟨g, 2, none⟩ u2).setCell ⟨g, 3, none⟩ u3).setCell ⟨g, 4, none⟩ u4) (some g) := by
  constructor
  · unfold Blk at h ⊢
    simp [World.setCell, Array.getElem?_modify, h]
  · have st : ∀ (w : World) (i : Nat) (u : Value), w.grownBy (w.setCell ⟨g, i, none⟩ u) (some g) := fun w i u =>
      ⟨rfl, rfl, rfl, by simp, fun k _ hk => Below.heap_setCell w ⟨g, i, none⟩ u k (fun e => hk (by simp [e]))⟩
    exact grown_set (grown_set (grown_set (grown_set (st w 0 u0) (st _ 1 u1)) (st _ 2 u2)) (st _ 3 u3)) (st _ 4 u4)
end Go.Proofs.Ytdgoladbkaldkaa
