/-
  Lists of lists of floats that the call made: takeLines at lists, and their concatenation (slices.Concat, slices.Grow). Conditions: the numbers can be read.
-/
import Derived.Test.YtkfpaehalfjhhaaFun
import Derived.Lib.AppendZerosOnto
import Derived.Lib.SliceRun
namespace Go.Proofs.Ytkfpaehalfjhhaa
open Go.RowKit Go.Deep Go.WideShapes Go.ChangeShapes

/-- a list that the call made, by its address -/
structure LRow where
  b : Option Addr
  c : Nat
  ys : List Nat
def LRow.val (r : LRow) : Value := .slice r.b r.ys.length r.c
def LRow.ok (w : World) (B : Nat) (zs : List Nat) (r : LRow) : Prop := OwnF w B r.b r.c r.ys ∧ r.ys.map (canon .f32) = zs
/-- the first rows are made -/
def partL (rs : List LRow) (n : Nat) : List Value := rs.map LRow.val ++ List.replicate (n - rs.length) (Value.slice none 0 0)
theorem partL_set (rs : List LRow) (n : Nat) (r : LRow) (h : rs.length < n) : (partL rs n).set rs.length r.val = partL (rs ++ [r]) n := by
  unfold partL
  rw [List.set_append_right _ _ (by simp), List.length_map, Nat.sub_self]
  obtain ⟨m, hm⟩ : ∃ m, n - rs.length = m + 1 := ⟨n - rs.length - 1, by omega⟩
  rw [hm, List.replicate_succ, List.set_cons_zero, show n - (rs ++ [r]).length = m by simp; omega]
  simp
theorem partL_all (rs : List LRow) : partL rs rs.length = rs.map LRow.val := by simp [partL]
theorem LRow.ok.kept {w w' : World} {B : Nat} {zs : List Nat} {r : LRow} (h : r.ok w B zs) (hb : Below w.heap.size w w') : r.ok w' B zs := ⟨h.1.kept hb, h.2⟩
theorem LRow.ok.far {w : World} {g i : Nat} {u : Value} {zs : List Nat} {r : LRow} (h : r.ok w (g + 1) zs) : r.ok (w.setCell ⟨g, i, none⟩ u) (g + 1) zs := ⟨h.1.far (by simp) u, h.2⟩
/-- rows number by number -/
def AllOk (w : World) (B : Nat) (rowOf : Nat → List Nat) (rs : List LRow) : Prop := ∀ (i : Nat) (r : LRow), rs[i]? = some r → r.ok w B (rowOf i)
theorem AllOk.kept {w w' : World} {B : Nat} {rowOf : Nat → List Nat} {rs : List LRow} (h : AllOk w B rowOf rs) (hb : Below w.heap.size w w') : AllOk w' B rowOf rs := fun i r hr => (h i r hr).kept hb
theorem AllOk.snoc {w : World} {B : Nat} {rowOf : Nat → List Nat} {rs : List LRow} {r : LRow} (h : AllOk w B rowOf rs) (hr : r.ok w B (rowOf rs.length)) : AllOk w B rowOf (rs ++ [r]) := by
  intro i r' hi
  by_cases hlt : i < rs.length
  · rw [List.getElem?_append_left hlt] at hi; exact h i r' hi
  · rw [List.getElem?_append_right (by omega)] at hi
    have : i - rs.length = 0 := by
      have := (List.getElem?_eq_some_iff.1 hi).1
      simp at this; omega
    rw [this] at hi
    simp at hi
    subst hi
    rw [show i = rs.length by omega]
    exact hr
theorem info_fl : (Try.prog.info? 22).map (fun i => (i.zero, i.size, i.bytes)) = some (some (.slice none 0 0), 1, 24) := by kernel_rfl
/-- a list of lists is returned -/
def RetRows (rowOf : Nat → List Nat) (n : Nat) (w : World) (e : Ending) (w' : World) : Prop :=
  ∃ (g : Nat) (rs : List LRow), e = .returned (.slice (some ⟨g, 0, none⟩) n n) ∧ rs.length = n ∧ w'.ownsRow w.heap.size 22 1 (.slice (some ⟨g, 0, none⟩) n n) n (rs.map LRow.val) ∧ AllOk w' w.heap.size rowOf rs ∧ Below w.heap.size w w'
def RowsRel (rowOf : Nat → List Nat) (n gd : Nat) (w : World) (i : Value) (wr : World) : Prop :=
  ∃ (k : Nat) (rs : List LRow), k ≤ n ∧ i = .int .i64 k ∧ rs.length = k ∧ wr.ownsRow w.heap.size 22 1 (.slice (some ⟨gd, 0, none⟩) n n) n (partL rs n) ∧ AllOk wr (gd + 1) rowOf rs ∧ Below w.heap.size w wr
theorem rows_step {rowOf : Nat → List Nat} {n gd k : Nat} {w wr w2 : World} {rs : List LRow} {r : LRow} (hgd : w.heap.size ≤ gd) (hy : rs.length = k) (hk : k < n) (ho : wr.ownsRow w.heap.size 22 1 (.slice (some ⟨gd, 0, none⟩) n n) n (partL rs n)) (hr : AllOk wr (gd + 1) rowOf rs)
    (hl : Below w.heap.size w wr) (hb : Below wr.heap.size wr w2) (hnew : r.ok w2 (gd + 1) (rowOf k)) :
    RowsRel rowOf n gd w (.int .i64 ((k : Int) + 1)) (w2.setCell ⟨gd, k, none⟩ r.val) := by
  have ho2 := ho.kept (row := none) ⟨hb.os, hb.tape, hb.output, hb.size, fun j hj _ => hb.block j hj⟩ (.inr (by simp [Value.ownBlock]))
  obtain ⟨o1, o2⟩ := ho2.stored k r.val
  rw [← hy, partL_set rs n r (by omega)] at o1
  refine ⟨k + 1, rs ++ [r], by omega, by go_num, by simp [hy], by rw [← hy]; exact o1, ?_, (hl.trans (hb.mono hl.size)).setCell hgd _⟩
  have h1 : AllOk w2 (gd + 1) rowOf (rs ++ [r]) := (hr.kept hb).snoc (by rw [hy]; exact hnew)
  exact fun i r' hr' => (h1 i r' hr').far
theorem rows_cell {gd n k : Nat} {w wr w2 : World} {rs : List LRow} (hk : k < n) (ho : wr.ownsRow w.heap.size 22 1 (.slice (some ⟨gd, 0, none⟩) n n) n (partL rs n)) (hb : Below wr.heap.size wr w2) : w2.frozen? ⟨gd, k, none⟩ = false ∧ ∃ v, w2.cell? ⟨gd, k, none⟩ = some v := by
  have ho2 := ho.kept (row := none) ⟨hb.os, hb.tape, hb.output, hb.size, fun j hj _ => hb.block j hj⟩ (.inr (by simp [Value.ownBlock]))
  refine ⟨ho2.frozenAt k, ?_⟩
  rw [ho2.cellAt k (by omega)]
  exact ⟨_, List.getElem?_eq_getElem (by rw [ho2.1]; omega)⟩
theorem LRow.reads {w : World} {B : Nat} {zs : List Nat} {r : LRow} (h : r.ok w B zs) : Reads w w.heap.size 1 r.b r.ys.length (r.ys.map (Value.float .f32)) := h.1.isFloats.reads
/-- the first k rows, one behind the other -/
def catL (rs : List LRow) (k : Nat) : List Nat := (rs.take k).flatMap LRow.ys
theorem catL_succ {rs : List LRow} {k : Nat} {r : LRow} (h : rs[k]? = some r) : catL rs (k + 1) = catL rs k ++ r.ys := by
  unfold catL
  rw [List.take_add_one, h, List.flatMap_append]
  simp
theorem catL_length {rs : List LRow} {C : Nat} (h : ∀ r ∈ rs, r.ys.length = C) (k : Nat) (hk : k ≤ rs.length) : (catL rs k).length = k * C := by
  induction k with
  | zero => simp [catL]
  | succ k ih =>
    have hr : rs[k]? = some rs[k] := List.getElem?_eq_getElem (by omega)
    rw [catL_succ hr, List.length_append, ih (by omega), h _ (List.getElem_mem _), Nat.add_mul, Nat.one_mul]
theorem catL_map {rs : List LRow} {w : World} {B : Nat} {rowOf : Nat → List Nat} (h : AllOk w B rowOf rs) (k : Nat) (hk : k ≤ rs.length) : (catL rs k).map (canon .f32) = (List.range k).flatMap rowOf := by
  induction k with
  | zero => simp [catL]
  | succ k ih =>
    have hr : rs[k]? = some rs[k] := List.getElem?_eq_getElem (by omega)
    rw [catL_succ hr, List.map_append, ih (by omega), (h _ _ hr).2, List.range_succ, List.flatMap_append]
    simp
def CatRel (rs : List LRow) (n : Nat) (B : Nat) (w : World) (s i : Value) (wr : World) : Prop :=
  ∃ (k : Nat) (b : Option Addr) (cp : Nat), k ≤ n ∧ i = .int .i64 k ∧ s = .slice b (catL rs k).length cp ∧ OwnF wr B b cp (catL rs k) ∧ Below w.heap.size w wr
theorem cat_next {w wr w5 : World} {B : Nat} {b a' : Option Addr} {cp c' m : Nat} {tl cl : List Nat} (ho : OwnF wr B b cp tl) (hc : ∀ y ∈ cl, y < 2 ^ 32)
    (hown : w5.ownsRow B 46 1 (.slice a' (tl.length + m) c') (tl.length + m) (tl.map (Value.float .f32) ++ cl.map (Value.float .f32))) (hgr : wr.grownBy w5 (Value.ownBlock (.slice b tl.length cp)))
    (hm : cl.length = m) (hB : w.heap.size ≤ B) (hl : Below w.heap.size w wr) :
    OwnF w5 B a' c' (tl ++ cl) ∧ Below w.heap.size w w5 := by
  subst hm
  rw [ownBlock_slice] at hgr
  refine ⟨⟨by simpa using hown, fun y hy => ?_⟩, hl.grown hgr hl.size (fun g h => Nat.le_trans hB (ho.lt g h).1)⟩
  rcases List.mem_append.1 hy with h | h
  · exact ho.2 y h
  · exact hc y h
end Go.Proofs.Ytkfpaehalfjhhaa
