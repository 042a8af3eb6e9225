/-
  What ReluTensor returns, as the model and as the program make it. Conditions: the numbers can be read.
-/
import Derived.Test.YtaipegkkpkagnaaEach
import Derived.Test.YtaipegkkpkagnaaRlu
namespace Go.Proofs.Ytaipegkkpkagnaa
open Go.RowKit Go.Deep Go.WideShapes Go.ChangeShapes

/-- what is greater than 0, on one pattern for not-a-numbers -/
def crelu (x : Nat) : Nat := if (FloatKind.f32.format.order x 0 == some .lt || FloatKind.f32.format.order x 0 == some .eq) = true then 0 else canon .f32 x
theorem crelu_zero {x : Nat} (h : (FloatKind.f32.format.order x 0 == some .lt || FloatKind.f32.format.order x 0 == some .eq) = true) : canon .f32 0 = crelu x := by unfold crelu; rw [if_pos h]; exact canon_zero
theorem crelu_keep {x : Nat} (h : (FloatKind.f32.format.order x 0 == some .lt || FloatKind.f32.format.order x 0 == some .eq) = false) : canon .f32 x = crelu x := by unfold crelu; rw [if_neg (by rw [h]; decide)]
theorem own0 {B : Nat} {wr : World} {b : Option Addr} {cp v : Nat} {ys : List Nat} (ho : OwnF wr B b cp ys) : (wr.alloc (.cells #[.float .f32 v] 22)).ownsRow B 22 1 (.slice b ys.length cp) ys.length (ys.map (Value.float .f32)) := (ho.kept ((Below.refl _ _).alloc (Nat.le_refl _) _)).1
theorem reads0 {wr : World} {v : Nat} : Reads (wr.alloc (.cells #[.float .f32 v] 22)) (wr.heap.size + 1) 1 (some ⟨wr.heap.size, 0, none⟩) 1 [.float .f32 v] := by
  have h := made_reads (wr := wr) (m := 0) (v := v)
  rw [World.drewN_zero] at h
  exact h
theorem base0 {w wr : World} {v : Nat} (h : w.heap.size ≤ wr.heap.size) : w.heap.size ≤ (wr.alloc (.cells #[.float .f32 v] 22)).heap.size := by
  rw [World.size_alloc]; exact Nat.le_trans h (Nat.le_succ _)
theorem app0 {R C : Int} {f : Nat → Nat} {k gb : Nat} {w wr w' : World} {b a' : Option Addr} {cp cp' v : Nat} {ys : List Nat} (hgb : w.heap.size < gb)
    (hb : Blk wr gb 41 #[.int .i64 R, .int .i64 C, .slice b ys.length cp]) (ho : OwnF wr w.heap.size b cp ys) (hl : Below w.heap.size w wr) (hr : Blk wr w.heap.size 41 #[.int .i64 0, .int .i64 0, .slice none 0 0])
    (he : ys.map (canon .f32) = (List.range k).map f) (hy : ys.length = k) (hv : v < 2 ^ 32) (hc : canon .f32 v = f k)
    (hown : w'.ownsRow w.heap.size 22 1 (.slice a' (ys.length + 1) cp') (ys.length + 1) (ys.map (Value.float .f32) ++ [.float .f32 v])) (hg : (wr.alloc (.cells #[.float .f32 v] 22)).grownBy w' (Value.ownBlock (.slice b ys.length cp))) :
    (w'.cell? ⟨gb, 2, none⟩ = some (.slice b ys.length cp) ∧ w'.frozen? ⟨gb, 2, none⟩ = false) ∧ Made R C f (k + 1) gb w (w'.setCell ⟨gb, 2, none⟩ (.slice a' (ys.length + 1) cp')) :=
  made_app (m := 0) hgb hb ho hl hr he hy hv hc hown (by rw [World.drewN_zero]; exact hg)

end Go.Proofs.Ytaipegkkpkagnaa
