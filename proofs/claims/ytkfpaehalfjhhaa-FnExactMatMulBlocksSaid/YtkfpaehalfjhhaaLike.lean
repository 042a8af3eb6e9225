/-
  Whether two tensors are valid and have one shape. Conditions: the tensors' cells can be read.
-/
import Derived.Test.YtkfpaehalfjhhaaVal
import Derived.BigRegion
namespace Go.Proofs.Ytkfpaehalfjhhaa
open Go.RowKit

def likeB (r c r' c' : Int) (n n' : Nat) : Bool := (((vokB r c n && vokB r' c' n') && (r == r')) && (c == c'))
theorem likeB_iff (r c r' c' : Int) (n n' : Nat) : likeB r c r' c' n n' = true ↔ vokB r c n = true ∧ vokB r' c' n' = true ∧ r = r' ∧ c = c' := by
  simp [likeB, and_assoc]
/-- two boxes, one after the other -/
theorem two_boxes (w : World) (t : TypeId) (x y : Array Value) : Blk ((w.alloc (.cells x t)).alloc (.cells y t)) w.heap.size t x ∧ Blk ((w.alloc (.cells x t)).alloc (.cells y t)) (w.heap.size + 1) t y ∧ Below w.heap.size w ((w.alloc (.cells x t)).alloc (.cells y t)) := by
  refine ⟨(Blk.new w t x).below ((Below.refl _ _).alloc (Nat.le_refl _) _), ?_, ((Below.refl _ _).alloc (Nat.le_refl _) _).alloc (by simp) _⟩
  have h := Blk.new (w.alloc (.cells x t)) t y
  simp only [World.size_alloc] at h
  exact h
set_option maxHeartbeats 2000000 in
theorem c_haveSameShape (r c r' c' : Int) (a a' : Option Addr) (n n' cap cap' : Nat) (w : World) :
    Calls Try.prog 84 #[.agg #[.int .i64 r, .int .i64 c, .slice a n cap], .agg #[.int .i64 r', .int .i64 c', .slice a' n' cap']] w fun e w' => e = .returned (.bool (likeB r c r' c' n n')) ∧ Below w.heap.size w w' := by
  obtain ⟨k0, k1, b0⟩ := two_boxes w 26 #[.int .i64 r, .int .i64 c, .slice a n cap] #[.int .i64 r', .int .i64 c', .slice a' n' cap']
  have K0 := Lib.hid k0
  have K1 := Lib.hid k1
  have B0 := Lib.hid b0
  clear k0 k1 b0
  cases e1 : vokB r c n with
  | false =>
    have E1 := Lib.hid e1
    have HB := Lib.hid (show likeB r c r' c' n n' = false by rw [likeB, e1]; rfl)
    clear e1
    rw [HB.out]
    go_enter Try.func84, Try.ntmps84
    go_wp2_with fail
    refine (c_iValid _ _ _ _ _ false E1.out _).mono ?_
    rintro e w1 ⟨rfl, hb⟩
    have B1 := Lib.hid (B0.out.trans (hb.mono B0.out.size))
    clear hb
    go_wp2_with fail
    go_ret
    exact ⟨rfl, B1.out⟩
  | true =>
    have E1 := Lib.hid e1
    have q : likeB r c r' c' n n' = ((vokB r' c' n' && (r == r')) && (c == c')) := by rw [likeB, e1, Bool.true_and]
    cases e2 : vokB r' c' n' with
    | false =>
      have E2 := Lib.hid e2
      have HB := Lib.hid (show likeB r c r' c' n n' = false by rw [q, e2]; rfl)
      clear e1 e2 q
      rw [HB.out]
      go_enter Try.func84, Try.ntmps84
      go_wp2_with fail
      refine (c_iValid _ _ _ _ _ true E1.out _).mono ?_
      rintro e w1 ⟨rfl, hb⟩
      have B1 := Lib.hid (B0.out.trans (hb.mono B0.out.size))
      have K1' := Lib.hid (K1.out.below hb)
      clear hb
      obtain ⟨p0, p1, p2, p3⟩ := tb K1'.out
      go_wp2_with fail
      refine (c_iValid _ _ _ _ _ false E2.out _).mono ?_
      rintro e w2 ⟨rfl, hb⟩
      have B2 := Lib.hid (B1.out.trans (hb.mono B1.out.size))
      clear hb p0 p1 p2 p3
      go_wp2_with fail
      go_ret
      exact ⟨rfl, B2.out⟩
    | true =>
      have E2 := Lib.hid e2
      have HB := Lib.hid (show likeB r c r' c' n n' = ((r == r') && (c == c')) by rw [q, e2, Bool.true_and])
      clear e1 e2 q
      rw [HB.out]
      cases e3 : (r == r') <;> cases e4 : (c == c')
      all_goals
        go_enter Try.func84, Try.ntmps84
        go_wp2_with fail
        refine (c_iValid _ _ _ _ _ true E1.out _).mono ?_
        rintro e w1 ⟨rfl, hb⟩
        have B1 := Lib.hid (B0.out.trans (hb.mono B0.out.size))
        have K0' := Lib.hid (K0.out.below hb)
        have K1' := Lib.hid (K1.out.below hb)
        clear hb
        obtain ⟨p0, p1, p2, p3⟩ := tb K1'.out
        go_wp2_with fail
        refine (c_iValid _ _ _ _ _ true E2.out _).mono ?_
        rintro e w2 ⟨rfl, hb⟩
        have B2 := Lib.hid (B1.out.trans (hb.mono B1.out.size))
        have K0'' := Lib.hid (K0'.out.below hb)
        have K1'' := Lib.hid (K1'.out.below hb)
        clear hb p0 p1 p2 p3
        obtain ⟨p0, p1, p2, p3⟩ := tb K0''.out
        obtain ⟨q0, q1, q2, q3⟩ := tb K1''.out
        go_wp2_with fail
        go_ret
        exact ⟨rfl, B2.out⟩
end Go.Proofs.Ytkfpaehalfjhhaa
