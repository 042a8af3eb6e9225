/-
  Words for models: lists of layers. Conditions: the cells can be read.
-/
import Derived.Test.YtdgoladbkaldkaaLay
namespace Go.Proofs.Ytdgoladbkaldkaa
open Go.RowKit
set_option linter.unusedVariables false

/-- the cells of a list of layers -/
def laysC (ls : List LayA) : List Cl := ls.flatMap LayA.cs
def laySum (ps : List LayP) : Nat := (ps.map LayP.n).sum
structure ModA where
  g : Option Addr
  c : Nat
  ls : List LayA
def ModA.cs (x : ModA) : List Cl := [.sl 0 5 x.ls.length x.g x.c (laysC x.ls)]
def ModA.P (x : ModA) : List LayP := x.ls.map LayA.p
theorem laysC_length (ls : List LayA) : (laysC ls).length = ls.length * 5 := by
  induction ls with
  | nil => rfl
  | cons l ls ih => simp only [laysC, List.flatMap_cons, List.length_append, List.length_cons, LayA.cs_len] at ih ⊢; omega
theorem laysC_get (ls : List LayA) (i : Nat) (x : LayA) (h : ls[i]? = some x) (j : Nat) (hj : j < 5) : (laysC ls)[i * 5 + j]? = x.cs[j]? := by
  induction ls generalizing i with
  | nil => simp at h
  | cons l ls ih =>
    simp only [laysC, List.flatMap_cons] at ih ⊢
    cases i with
    | zero =>
      simp only [List.getElem?_cons_zero, Option.some.injEq] at h
      subst h
      rw [Nat.zero_mul, Nat.zero_add, List.getElem?_append_left (by rw [LayA.cs_len]; exact hj)]
    | succ i =>
      simp only [List.getElem?_cons_succ] at h
      rw [List.getElem?_append_right (by rw [LayA.cs_len]; omega), LayA.cs_len, show (i + 1) * 5 + j - 5 = i * 5 + j by omega]
      exact ih i h
/-- a slice of layers can be read -/
def LaysAt (w : World) (g : Option Addr) (n cap : Nat) (ls : List LayA) : Prop :=
  ls.length = n ∧ n ≤ cap ∧ cap ≤ maxLen ∧ AtL w (laysC ls) ∧ (n = 0 ∨ ∃ b off, g = some ⟨b, off, none⟩ ∧ b < w.heap.size ∧ ∀ i, i < n * 5 → w.cell? ⟨b, off + i, none⟩ = (vs (laysC ls))[i]?)
theorem laysAt_cl {w : World} {t : TypeId} {g : Option Addr} {c : Nat} {ls : List LayA} : (Cl.sl t 5 ls.length g c (laysC ls)).At w ↔ LaysAt w g ls.length c ls := by
  simp only [Cl.At, LaysAt, laysC_length, true_and]
  constructor
  · rintro ⟨⟨h1, h2, h3⟩, h4⟩; exact ⟨h1, h2, h4, h3⟩
  · rintro ⟨h1, h2, h4, h3⟩; exact ⟨⟨h1, h2, h3⟩, h4⟩
theorem ModA.at_iff {w : World} {x : ModA} : AtL w x.cs ↔ LaysAt w x.g x.ls.length x.c x.ls := by
  simp only [ModA.cs, AtL, laysAt_cl, and_true]
theorem laysAt_own {w : World} {B : Nat} {t : TypeId} {g : Option Addr} {n c : Nat} {ys : List LayA} (hl : ys.length = n) (h : OwnL w B [.sl t 5 n g c (laysC ys)]) : LaysAt w g n c ys := by
  subst hl
  exact laysAt_cl.1 ((OwnL.at _ h).1)
theorem can_of {xs ys : List LayA} (h : xs.map LayA.p = ys.map LayA.p) : xs.map (fun x => x.p.can) = ys.map (fun x => x.p.can) := by
  have h1 : (xs.map LayA.p).map LayP.can = (ys.map LayA.p).map LayP.can := by rw [h]
  simpa [List.map_map, Function.comp_def] using h1
theorem LaysAt.kept {w w' : World} {g : Option Addr} {n cap : Nat} {ls : List LayA} (h : LaysAt w g n cap ls) (hb : Below w.heap.size w w') : LaysAt w' g n cap ls := by
  obtain ⟨rfl, r⟩ := h
  have h : LaysAt w g ls.length cap ls := ⟨rfl, r⟩
  exact laysAt_cl.1 (Cl.At.kept hb _ (laysAt_cl (t := 0).2 h))
/-- one layer of it -/
theorem LaysAt.one {w : World} {g : Option Addr} {n cap : Nat} {ls : List LayA} (h : LaysAt w g n cap ls) {i : Nat} (hi : i < n) : ∃ (b off : Nat) (k ii o : Int) (ws bs : List Nat) (a0 : Option Addr) (c0 : Nat) (a1 : Option Addr) (c1 : Nat), g = some ⟨b, off, none⟩ ∧ b < w.heap.size ∧ ls[i]? = some ⟨⟨k, ii, o, ws, bs⟩, a0, c0, a1, c1⟩ ∧
    w.cell? ⟨b, off + i * 5, none⟩ = some (.int .i64 k) ∧ w.cell? ⟨b, off + i * 5 + 1, none⟩ = some (.int .i64 ii) ∧ w.cell? ⟨b, off + i * 5 + 2, none⟩ = some (.int .i64 o) ∧ w.cell? ⟨b, off + i * 5 + 3, none⟩ = some (.slice a0 ws.length c0) ∧ w.cell? ⟨b, off + i * 5 + 4, none⟩ = some (.slice a1 bs.length c1) ∧
    IsFloats .f32 w a0 ws.length c0 ws ∧ IsFloats .f32 w a1 bs.length c1 bs := by
  obtain ⟨hl, _, _, ha, hc⟩ := h
  have hx : ls[i]? = some ls[i] := List.getElem?_eq_getElem (by omega)
  obtain ⟨x, hx'⟩ : ∃ x, ls[i] = x := ⟨_, rfl⟩
  rw [hx'] at hx
  rcases hc with h0 | ⟨b, off, rfl, hb, hc⟩
  · omega
  · have hcell : ∀ j, j < 5 → w.cell? ⟨b, off + i * 5 + j, none⟩ = (vs x.cs)[j]? := by
      intro j hj
      have h1 := hc (i * 5 + j) (by omega)
      rw [← Nat.add_assoc] at h1
      rw [h1]
      simp only [vs, List.getElem?_map, laysC_get ls i x hx j hj]
    have hat : AtL w x.cs := by
      rw [AtL_iff] at ha ⊢
      intro c hcm
      exact ha c (List.mem_flatMap.2 ⟨x, List.mem_of_getElem? hx, hcm⟩)
    rw [LayA.at_iff] at hat
    obtain ⟨⟨k, ii, o, ws, bs⟩, a0, c0, a1, c1⟩ := x
    exact ⟨b, off, k, ii, o, ws, bs, a0, c0, a1, c1, rfl, hb, hx, hcell 0 (by omega), hcell 1 (by omega), hcell 2 (by omega), hcell 3 (by omega), hcell 4 (by omega), hat.1, hat.2⟩
theorem LaysAt.floats {w : World} {g : Option Addr} {n cap : Nat} {ls : List LayA} (h : LaysAt w g n cap ls) {i : Nat} {x : LayA} (hx : ls[i]? = some x) : IsFloats .f32 w x.a0 x.p.ws.length x.c0 x.p.ws ∧ IsFloats .f32 w x.a1 x.p.bs.length x.c1 x.p.bs := by
  have ha := h.2.2.2.1
  rw [AtL_iff] at ha
  exact LayA.at_iff.1 (AtL_iff.2 fun c hc => ha c (List.mem_flatMap.2 ⟨x, List.mem_of_getElem? hx, hc⟩))
theorem row_kept {w w' : World} {B : Nat} {t : TypeId} {sz n : Nat} {v : Value} {xs : List Value} (h : w.ownsRow B t sz v n xs) (hb : Below w.heap.size w w') : w'.ownsRow B t sz v n xs :=
  h.kept (row := none) ⟨hb.os, hb.tape, hb.output, hb.size, fun j hj _ => hb.block j hj⟩ (by cases v.ownBlock <;> simp)
theorem row_cell {w : World} {B : Nat} {t : TypeId} {sz n cap g : Nat} {xs : List Value} (h : w.ownsRow B t sz (.slice (some ⟨g, 0, none⟩) n cap) n xs) (j : Nat) (hj : j < n * sz) : w.frozen? ⟨g, j, none⟩ = false ∧ ∃ v, w.cell? ⟨g, j, none⟩ = some v := by
  refine ⟨h.frozenAt j, ?_⟩
  rw [h.cellAt j hj]
  exact ⟨_, List.getElem?_eq_getElem (by rw [h.1]; exact hj)⟩
end Go.Proofs.Ytdgoladbkaldkaa
