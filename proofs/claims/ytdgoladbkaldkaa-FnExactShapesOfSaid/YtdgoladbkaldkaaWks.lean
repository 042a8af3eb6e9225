/-
  WorkerRows: the rows as the program and the model make them. Conditions: at most 16 rows and 8 workers, no more than rows.
-/
import Derived.Test.YtdgoladbkaldkaaWkr
import Derived.Test.YtdgoladbkaldkaaFun
namespace Go.Proofs.Ytdgoladbkaldkaa
open Go.RowKit Go.Deep Go.WideShapes Go.ChangeShapes
set_option linter.unusedVariables false
set_option linter.unusedSimpArgs false

/-- one list more behind those that are there -/
theorem il_next {wr w5 w' : World} {B : Nat} {q a' : Option Addr} {cp c' : Nat} {ys : List IlA} {x : IlA} {tmp : Obj}
    (ho : wr.ownsRow B 35 1 (.slice q ys.length cp) ys.length (ys.map IlA.v)) (hx : OwnL wr B (ilC ys)) (hnd : (blL [.sl 35 1 ys.length q cp (ilC ys)]).Nodup)
    (hb5 : Below wr.heap.size wr w5) (hox : OwnL w5 wr.heap.size [x.cl]) (hndx : (blL [x.cl]).Nodup) (hB : B ≤ wr.heap.size)
    (hown : w'.ownsRow B 35 1 (.slice a' (ys.length + 1) c') (ys.length + 1) (ys.map IlA.v ++ [x.v])) (hg : (w5.alloc tmp).grownBy w' (Value.ownBlock (.slice q ys.length cp)))
    (hat : (Value.slice a' (ys.length + 1) c').ownBlock = (Value.slice q ys.length cp).ownBlock ∨ (Value.slice a' (ys.length + 1) c').ownBlock = some (w5.alloc tmp).heap.size) :
    w'.ownsRow B 35 1 (.slice a' (ys ++ [x]).length c') (ys ++ [x]).length ((ys ++ [x]).map IlA.v) ∧ OwnL w' B (ilC (ys ++ [x])) ∧ (blL [.sl 35 1 (ys ++ [x]).length a' c' (ilC (ys ++ [x]))]).Nodup ∧ Below B wr w' := by
  have ba : Below w5.heap.size w5 (w5.alloc tmp) := (Below.refl _ _).alloc (Nat.le_refl _) _
  have b6 : Below wr.heap.size wr (w5.alloc tmp) := Below.next hb5 ba
  rw [ownBlock_slice] at hg
  rw [ownBlock_slice, ownBlock_slice] at hat
  have hG := GrownIn.of_grown hg
  simp only [blL, Cl.bl, List.append_nil] at hnd
  obtain ⟨n1, n2, n3⟩ := List.nodup_append.1 hnd
  have o1 : OwnL (w5.alloc tmp) B (ilC ys) := OwnL.kept hx b6
  have o2 : OwnL (w5.alloc tmp) wr.heap.size [x.cl] := OwnL.kept hox ba
  have hq : ∀ g ∈ (blk q).toList, B ≤ g ∧ g < wr.heap.size := ownsRow_lt ho
  have p1 : OwnL w' B (ilC ys) := OwnL.apart hG _ o1 (fun g h1 h2 => n3 g h2 g h1 rfl)
  have p2 : OwnL w' wr.heap.size [x.cl] := OwnL.apart hG _ o2 (fun g h1 h2 => by have := (OwnL.lt _ o2 g h1).1; have := (hq g h2).2; omega)
  refine ⟨by simpa using hown, ?_, ?_, ?_⟩
  · rw [ilC_append, OwnL_append]
    exact ⟨p1, OwnL.base hB _ p2⟩
  · simp only [blL, Cl.bl, List.append_nil]
    rw [ilC_append, blL_append]
    have hxx : ∀ g ∈ blL (ilC ys), g ∉ blL (ilC [x]) := fun g h1 h2 => by
      have e1 := (OwnL.lt _ hx g h1).2
      have e2 := (OwnL.lt _ o2 g h2).1
      omega
    refine List.nodup_append.2 ⟨nodup1 _, List.nodup_append.2 ⟨n2, hndx, fun g h1 k h2 e => hxx g h1 (e ▸ h2)⟩, ?_⟩
    rintro g h1 k h2 rfl
    rcases hat with h | h
    · rw [h] at h1
      rcases List.mem_append.1 h2 with h2 | h2
      · exact n3 g h1 g h2 rfl
      · have := (hq g h1).2
        have := (OwnL.lt _ o2 g h2).1
        omega
    · rw [h] at h1
      simp only [Option.toList_some, List.mem_singleton] at h1
      rcases List.mem_append.1 h2 with h2 | h2
      · have := (OwnL.lt _ o1 g h2).2
        omega
      · have := (OwnL.lt _ o2 g h2).2
        omega
  · exact (b6.mono hB).trans (hG.below (Nat.le_trans hB b6.size) (fun g h => (hq g h).1))
theorem rowW_cl (w : World) (a b : Int) : OwnL (w.alloc (.cells #[.int .i64 a, .int .i64 b] 2)) w.heap.size [IlA.cl ⟨[a, b], some ⟨w.heap.size, 0, none⟩, 2⟩] := by
  simp only [IlA.cl, inC, OwnL, Cl.Own, and_true, vs, List.map_cons, List.map_nil, Cl.v, List.length_cons, List.length_nil]
  exact ⟨by simp, .inr ⟨w.heap.size, 2, _, rfl, Nat.le_refl _, heap_alloc_new w _, Nat.le_refl _, by unfold maxLen; omega, rfl, by simp⟩⟩
theorem rowW_nd (a : List Int) (s c : Nat) : (blL [IlA.cl ⟨a, some ⟨s, 0, none⟩, c⟩]).Nodup := by
  have := inC_bl (some ⟨s, 0, none⟩) c a
  simp only [IlA.cl]
  rw [this]
  simp [blk]

/-! the model -/
/-! the program -/
end Go.Proofs.Ytdgoladbkaldkaa
