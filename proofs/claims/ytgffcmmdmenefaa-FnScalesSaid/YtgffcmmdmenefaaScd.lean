/-
  The law's helpers on loss scales: opened, copied, compared. Conditions: the numbers fit their kinds.
-/
import Derived.Test.YtgffcmmdmenefaaScc
namespace Go.Proofs.Ytgffcmmdmenefaa
open Go.RowKit Go.ChangeShapes Go.WideShapes
set_option linter.unusedVariables false

set_option maxRecDepth 100000 in
theorem open_Sca {H : Type} {enc : TypeId × Value → H} {W : World} {base b0 : Nat} {re : Reach} {held : Bool} {v : Value} {d : DataW H} {p : List MemPlace}
    (hv : Value.okWide Try.prog W re b0 24 v) (h : DataW.Trod enc Try.prog W base (fun _ => true) held 24 v d p) :
    ∃ (s : Nat) (g q : Int), v = scV s g q ∧ s < 4294967296 := by
  obtain ⟨v0, v1, v2, y0, y1, y2, n, rfl, _, _, h0, h1, h2⟩ := Joins.open_agg3 Try.underlying24 (by kernel_rfl) (by kernel_rfl) hv h
  obtain ⟨s, rfl, hs⟩ := trod_float Try.underlying22 h0
  obtain ⟨g, e0, _, wr⟩ := DataW.trod_int Try.underlying2 h1
  obtain ⟨q, e1, _, wc⟩ := DataW.trod_int Try.underlying2 h2
  simp only [List.cons.injEq, and_true] at e0 e1
  subst e0 e1
  exact ⟨s, g, q, rfl, hs⟩
set_option maxRecDepth 20000 in
set_option maxHeartbeats 1000000 in
theorem c_toSca (s : Nat) (g q : Int) (w : World) : Calls Try.prog 16 #[scV s g q] w fun e w' => e = .returned (scV s g q) ∧ Below w.heap.size w w' := by
  unfold scV
  go_enter Try.func16, Try.ntmps16
  go_wp2
  refine bodyPost_ret (v := .agg #[.float .f32 s, .int .i64 g, .int .i64 q]) (by simp [results, Try.results16, go_sem]) rfl ⟨rfl, ?_⟩
  repeat first | with_reducible refine b_alloc ?_ _ | with_reducible refine b_set0 ?_ _ _ | with_reducible refine b_set1 ?_ _ _ | with_reducible refine Below.setCell ?_ (show _ ≤ _ + 1 + 1 by omega) _ | with_reducible refine below_drewN ?_ _
  exact Below.refl _ _
set_option maxRecDepth 20000 in
set_option maxHeartbeats 1000000 in
theorem c_eqSca (s : Nat) (g q : Int) (w : World) : Calls Try.prog 20 #[scV s g q, scV s g q] w fun e w' => e = .returned (.bool true) ∧ Below w.heap.size w w' := by
  unfold scV
  go_enter Try.func20, Try.ntmps20
  go_wp2_with (go_at_call 24; refine (c_sameFloat _ _ (cwide_same _ _ rfl) _).mono ?_; rintro e w' ⟨rfl, m, rfl⟩)
  go_ret
  refine ⟨rfl, ?_⟩
  repeat first | with_reducible refine b_alloc ?_ _ | with_reducible refine below_drewN ?_ _
  exact Below.refl _ _
end Go.Proofs.Ytgffcmmdmenefaa
