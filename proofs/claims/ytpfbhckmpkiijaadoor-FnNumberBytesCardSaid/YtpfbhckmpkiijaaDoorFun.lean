/-
  Lists made number by number by a function that is handed over (eachOf, combineLists, takeLines): for any function with a contract. Conditions: the numbers can be read.
-/
import Derived.Test.YtpfbhckmpkiijaaDoorRow
namespace Go.Proofs.YtpfbhckmpkiijaaDoor
open Go.RowKit Go.Deep Go.WideShapes Go.ChangeShapes

/-- a function of the text is entered when it is called -/
theorem enters_of {F : FuncId} {fn : Func} (hf : Tryd.prog.funcs[F]? = some fn) (hn : (fn.name == "runtime.NumGoroutine") = false) (hb : fn.body.isNone = false) (xs : Array Value) (wr : World) : (callFunc F xs).run Tryd.prog wr = .ok (.enter F xs) wr := by
  have h1 : ¬ fn.name = "runtime.NumGoroutine" := by simpa using hn
  have h2 : ¬ fn.body = none := by intro h; rw [h] at hb; cases hb
  simp [callFunc, hf, h1, h2]
/-- a number is returned -/
def RetX (v : Nat) (w : World) (e : Ending) (w' : World) : Prop := ∃ r, e = .returned (.float .f32 r) ∧ canon .f32 r = v ∧ r < 2 ^ 32 ∧ Below w.heap.size w w'
/-- a list is returned -/
def RetLs (zs : List Nat) (w : World) (e : Ending) (w' : World) : Prop := ∃ a cap ys, e = .returned (.slice a ys.length cap) ∧ OwnF w' w.heap.size a cap ys ∧ ys.map (canon .f32) = zs ∧ Below w.heap.size w w'
theorem RetX.of_RetF {v : Nat} {w : World} {e : Ending} {w' : World} (h : RetF .f32 v w e w') : RetX v w e w' := by
  obtain ⟨r, n, hc, hl, rfl, rfl⟩ := h
  exact ⟨r, rfl, hc, hl, below_drewN (Below.refl _ _) n⟩
/-- the first k of n numbers are made, in a row of the call's own -/
def partF (ys : List Nat) (n : Nat) : List Value := ys.map (Value.float .f32) ++ List.replicate (n - ys.length) (Value.float .f32 0)
theorem partF_set (ys : List Nat) (n v : Nat) (h : ys.length < n) : (partF ys n).set ys.length (.float .f32 v) = partF (ys ++ [v]) n := by
  unfold partF
  rw [List.set_append_right _ _ (by simp), List.length_map, Nat.sub_self]
  obtain ⟨m, hm⟩ : ∃ m, n - ys.length = m + 1 := ⟨n - ys.length - 1, by omega⟩
  rw [hm, List.replicate_succ, List.set_cons_zero, show n - (ys ++ [v]).length = m by simp; omega]
  simp
theorem partF_all (ys : List Nat) : partF ys ys.length = ys.map (Value.float .f32) := by simp [partF]
def FunRel (f : Nat → Nat) (n gd : Nat) (w : World) (i : Value) (wr : World) : Prop :=
  ∃ (k : Nat) (ys : List Nat), k ≤ n ∧ i = .int .i64 k ∧ ys.length = k ∧ wr.ownsRow w.heap.size 34 1 (.slice (some ⟨gd, 0, none⟩) n n) n (partF ys n) ∧ (∀ y ∈ ys, y < 2 ^ 32) ∧ ys.map (canon .f32) = (List.range k).map f ∧ Below w.heap.size w wr
theorem fun_step {f : Nat → Nat} {n gd k v : Nat} {w wr w2 : World} {ys : List Nat} (hgd : w.heap.size ≤ gd) (hy : ys.length = k) (hk : k < n) (ho : wr.ownsRow w.heap.size 34 1 (.slice (some ⟨gd, 0, none⟩) n n) n (partF ys n)) (ht : ∀ y ∈ ys, y < 2 ^ 32)
    (he : ys.map (canon .f32) = (List.range k).map f) (hl : Below w.heap.size w wr) (hb : Below wr.heap.size wr w2) (hv : v < 2 ^ 32) (hc : canon .f32 v = f k) :
    FunRel f n gd w (.int .i64 ((k : Int) + 1)) (w2.setCell ⟨gd, k, none⟩ (.float .f32 v)) := by
  have ho2 := ho.kept (row := none) ⟨hb.os, hb.tape, hb.output, hb.size, fun j hj _ => hb.block j hj⟩ (.inr (by simp [Value.ownBlock]))
  obtain ⟨o1, o2⟩ := ho2.stored k (.float .f32 v)
  rw [← hy, partF_set ys n v (by omega)] at o1
  refine ⟨k + 1, ys ++ [v], by omega, by go_num, by simp [hy], by rw [← hy]; exact o1, ?_, ?_, (hl.trans (hb.mono hl.size)).setCell hgd _⟩
  · intro y h
    rcases List.mem_append.1 h with h | h
    · exact ht y h
    · simp at h; subst h; exact hv
  · rw [List.map_append, he, List.range_succ, List.map_append]
    simp [hc]
theorem fun_cell {gd n k : Nat} {w wr w2 : World} {ys : List Nat} (hk : k < n) (ho : wr.ownsRow w.heap.size 34 1 (.slice (some ⟨gd, 0, none⟩) n n) n (partF ys n)) (hb : Below wr.heap.size wr w2) : w2.frozen? ⟨gd, k, none⟩ = false ∧ ∃ v, w2.cell? ⟨gd, k, none⟩ = some v := by
  have ho2 := ho.kept (row := none) ⟨hb.os, hb.tape, hb.output, hb.size, fun j hj _ => hb.block j hj⟩ (.inr (by simp [Value.ownBlock]))
  refine ⟨ho2.frozenAt k, ?_⟩
  rw [ho2.cellAt k (by omega)]
  exact ⟨_, List.getElem?_eq_getElem (by rw [ho2.1]; omega)⟩
theorem fun_end {f : Nat → Nat} {n gd : Nat} {w wr : World} {ys : List Nat} (hy : ys.length = n) (ho : wr.ownsRow w.heap.size 34 1 (.slice (some ⟨gd, 0, none⟩) n n) n (partF ys n)) (ht : ∀ y ∈ ys, y < 2 ^ 32)
    (he : ys.map (canon .f32) = (List.range n).map f) (hl : Below w.heap.size w wr) : RetLs ((List.range n).map f) w (.returned (.slice (some ⟨gd, 0, none⟩) n n)) wr := by
  subst hy
  rw [partF_all] at ho
  exact ⟨_, _, ys, rfl, ⟨ho, ht⟩, he, hl⟩

end Go.Proofs.YtpfbhckmpkiijaaDoor