/-
  Lists of int64 that a call makes: number by number in a row of its own, or grown by append. Conditions: none.
-/
import Derived.Test.YtaipegkkpkagnaaOp5
import Derived.Test.YtaipegkkpkagnaaInts
namespace Go.Proofs.Ytaipegkkpkagnaa
open Go.RowKit Go.Deep Go.WideShapes Go.ChangeShapes
set_option linter.unusedVariables false

theorem info_j64 : (Try.prog.info? 2).map (fun i => (i.zero, i.size, i.bytes)) = some (some (.int .i64 0), 1, 8) := by kernel_rfl
def partJ (ys : List Int) (n : Nat) : List Value := ys.map toV ++ List.replicate (n - ys.length) (Value.int .i64 0)
theorem partJ_set (ys : List Int) (n : Nat) (v : Int) (h : ys.length < n) : (partJ ys n).set ys.length (.int .i64 v) = partJ (ys ++ [v]) n := by
  unfold partJ
  rw [List.set_append_right _ _ (by simp), List.length_map, Nat.sub_self]
  obtain ⟨m, hm⟩ : ∃ m, n - ys.length = m + 1 := ⟨n - ys.length - 1, by omega⟩
  rw [hm, List.replicate_succ, List.set_cons_zero, show n - (ys ++ [v]).length = m by simp; omega]
  simp [toV]
theorem partJ_all (ys : List Int) : partJ ys ys.length = ys.map toV := by simp [partJ]
def RetLsJ (zs : List Int) (w : World) (e : Ending) (w' : World) : Prop := ∃ a cap, e = .returned (.slice a zs.length cap) ∧ OwnI w' w.heap.size a cap zs ∧ Below w.heap.size w w'
def FunRelJ (f : Nat → Int) (n gd : Nat) (w : World) (i : Value) (wr : World) : Prop :=
  ∃ k : Nat, k ≤ n ∧ i = .int .i64 k ∧ wr.ownsRow w.heap.size 2 1 (.slice (some ⟨gd, 0, none⟩) n n) n (partJ ((List.range k).map f) n) ∧ Below w.heap.size w wr
theorem funJ_step {f : Nat → Int} {n gd k : Nat} {w wr w2 : World} (hgd : w.heap.size ≤ gd) (hk : k < n) (ho : wr.ownsRow w.heap.size 2 1 (.slice (some ⟨gd, 0, none⟩) n n) n (partJ ((List.range k).map f) n))
    (hl : Below w.heap.size w wr) (hb : Below wr.heap.size wr w2) :
    FunRelJ f n gd w (.int .i64 ((k : Int) + 1)) (w2.setCell ⟨gd, k, none⟩ (.int .i64 (f k))) := by
  have ho2 := ho.kept (row := none) ⟨hb.os, hb.tape, hb.output, hb.size, fun j hj _ => hb.block j hj⟩ (.inr (by simp [Value.ownBlock]))
  obtain ⟨o1, o2⟩ := ho2.stored k (.int .i64 (f k))
  have e := partJ_set ((List.range k).map f) n (f k) (by simp; exact hk)
  simp only [List.length_map, List.length_range] at e
  rw [e] at o1
  refine ⟨k + 1, by omega, by go_num, ?_, (hl.trans (hb.mono hl.size)).setCell hgd _⟩
  rw [List.range_succ, List.map_append]
  exact o1
theorem funJ_cell {gd n k : Nat} {w wr w2 : World} {ys : List Int} (hk : k < n) (ho : wr.ownsRow w.heap.size 2 1 (.slice (some ⟨gd, 0, none⟩) n n) n (partJ ys n)) (hb : Below wr.heap.size wr w2) : w2.frozen? ⟨gd, k, none⟩ = false ∧ ∃ v, w2.cell? ⟨gd, k, none⟩ = some v := by
  have ho2 := ho.kept (row := none) ⟨hb.os, hb.tape, hb.output, hb.size, fun j hj _ => hb.block j hj⟩ (.inr (by simp [Value.ownBlock]))
  refine ⟨ho2.frozenAt k, ?_⟩
  rw [ho2.cellAt k (by omega)]
  exact ⟨_, List.getElem?_eq_getElem (by rw [ho2.1]; omega)⟩

theorem funJ_end {f : Nat → Int} {n gd : Nat} {w wr : World} (hwf : ∀ i, i < n → (Lit.int .i64 (f i)).wf = true) (ho : wr.ownsRow w.heap.size 2 1 (.slice (some ⟨gd, 0, none⟩) n n) n (partJ ((List.range n).map f) n)) :
    OwnI wr w.heap.size (some ⟨gd, 0, none⟩) n ((List.range n).map f) := by
  have e : partJ ((List.range n).map f) n = ((List.range n).map f).map toV := by
    have := partJ_all ((List.range n).map f)
    simpa using this
  rw [e] at ho
  have hl : ((List.range n).map f).length = n := by simp
  refine ⟨by rw [hl]; exact ho, fun y hy => ?_⟩
  obtain ⟨i, hi, rfl⟩ := List.mem_map.1 hy
  exact hwf i (List.mem_range.1 hi)
/-! grown by append -/
def GrowRelJ (f : Nat → Int) (n B : Nat) (w : World) (s i : Value) (wr : World) : Prop :=
  ∃ (k : Nat) (a : Option Addr) (c : Nat) (ys : List Int), k ≤ n ∧ i = .int .i64 k ∧ s = .slice a ys.length c ∧ ys.length = k ∧ OwnI wr B a c ys ∧ ys = (List.range k).map f ∧ Below w.heap.size w wr
theorem growJ_first {f : Nat → Int} {n B : Nat} {w wr : World} {T : TypeId} (hB : B ≤ wr.heap.size) (hT : T = 2) (hb : Below w.heap.size w wr) (hw : w.heap.size ≤ wr.heap.size) : GrowRelJ f n B w (.slice (some ⟨wr.heap.size, 0, none⟩) 0 0) (.int .i64 0) (wr.alloc (.cells #[] T)) := by
  subst hT
  exact ⟨0, _, 0, [], Nat.zero_le _, rfl, rfl, rfl, ⟨World.ownsRow_made wr #[] 0 hB (by unfold maxLen; omega) rfl, fun _ h => by cases h⟩, rfl, hb.alloc hw _⟩
theorem growJ_reads {wr : World} {v : Int} : Reads (wr.alloc (.cells #[.int .i64 v] 2)) (wr.heap.size + 1) 1 (some ⟨wr.heap.size, 0, none⟩) 1 [.int .i64 v] := by
  refine ⟨rfl, fun _ => ⟨_, rfl, by simp, fun j u hu => ?_⟩⟩
  rw [add_plain]
  have := (Blk.new wr 2 #[.int .i64 v]).cell (0 + j)
  rw [this, Nat.zero_add]
  simpa using hu
theorem growJ_own {B : Nat} {wr : World} {b : Option Addr} {cp : Nat} {v : Int} {ys : List Int} (ho : OwnI wr B b cp ys) : (wr.alloc (.cells #[.int .i64 v] 2)).ownsRow B 2 1 (.slice b ys.length cp) ys.length (ys.map toV) :=
  (ho.kept ((Below.refl _ _).alloc (Nat.le_refl _) _)).1
theorem growJ_base {B : Nat} {wr : World} {v : Int} (h : B ≤ wr.heap.size) : B ≤ (wr.alloc (.cells #[.int .i64 v] 2)).heap.size := by
  rw [World.size_alloc]; exact Nat.le_trans h (Nat.le_succ _)
theorem one_i64 (v : Int) : ∀ u ∈ [Value.int .i64 v], u.oneCell' = true := by intro u hu; simp at hu; subst hu; rfl
theorem growJ_next {f : Nat → Int} {n k B : Nat} {w wr w' : World} {b a' : Option Addr} {cp cp' : Nat} {v : Int} {ys : List Int} (hk : k < n) (ho : OwnI wr B b cp ys) (hB : w.heap.size ≤ B) (hl : Below w.heap.size w wr)
    (he : ys = (List.range k).map f) (hy : ys.length = k) (hv : (Lit.int .i64 v).wf = true) (hc : v = f k)
    (hown : w'.ownsRow B 2 1 (.slice a' (ys.length + 1) cp') (ys.length + 1) (ys.map toV ++ [.int .i64 v])) (hg : (wr.alloc (.cells #[.int .i64 v] 2)).grownBy w' (Value.ownBlock (.slice b ys.length cp))) :
    GrowRelJ f n B w (.slice a' (ys.length + 1) cp') (.int .i64 ((k : Int) + 1)) w' := by
  rw [ownBlock_slice] at hg
  have bw : Below wr.heap.size wr (wr.alloc (.cells #[.int .i64 v] 2)) := (Below.refl _ _).alloc (Nat.le_refl _) _
  have ho1 := ho.kept bw
  have hl2 : Below w.heap.size w w' := (hl.trans (bw.mono hl.size)).grown hg (Nat.le_trans hl.size bw.size) (fun g h => Nat.le_trans hB (ho1.lt g h).1)
  refine ⟨k + 1, a', cp', ys ++ [v], hk, by go_num, by simp, by simp [hy], ⟨by simpa [toV] using hown, fun y hy' => ?_⟩, ?_, hl2⟩
  · rcases List.mem_append.1 hy' with h | h
    · exact ho.2 y h
    · simp at h; subst h; exact hv
  · rw [he, List.range_succ, List.map_append, hc]
    rfl
end Go.Proofs.Ytaipegkkpkagnaa
