/-
  MatMul, as the model and the program make it. Conditions: the numbers can be read.
-/
import Derived.Test.YtkfpaehalfjhhaaMulB
import Derived.Test.YtkfpaehalfjhhaaMulC
import Derived.Test.YtkfpaehalfjhhaaDotIn
import Derived.Test.YtkfpaehalfjhhaaEach
import Derived.BigQuiet
import Derived.Deep.QuietTactic
namespace Go.Proofs.Ytkfpaehalfjhhaa
open Go.RowKit Go.Deep Go.WideShapes Go.ChangeShapes

theorem colL_getD {z : List Nat} {R C K k : Nat} (hk : k < R) : (colL z R C K).getD k 0 = z.getD (k * C + K) 0 := by
  unfold colL
  simp [List.getD, hk]
set_option maxHeartbeats 2000000 in
theorem c_l02Fit (g g' : Nat) (r c r' c' : Int) (a a' : Option Addr) (n n' cap cap' : Nat) (hn : n ≤ 9223372036854775807) (hn' : n' ≤ 9223372036854775807) (w : World)
    (h0 : w.cell? ⟨g, 0, none⟩ = some (.int .i64 r)) (h1 : w.cell? ⟨g, 1, none⟩ = some (.int .i64 c)) (h2 : w.cell? ⟨g, 2, none⟩ = some (.slice a n cap))
    (h3 : w.cell? ⟨g', 0, none⟩ = some (.int .i64 r')) (h4 : w.cell? ⟨g', 1, none⟩ = some (.int .i64 c')) (h5 : w.cell? ⟨g', 2, none⟩ = some (.slice a' n' cap')) :
    Calls Try.prog 46 #[.pointer (some ⟨g, 0, none⟩), .pointer (some ⟨g', 0, none⟩)] w fun e w' => e = .returned (.bool (fitB r c r' c' n n')) ∧ Drawn w w' := by
  have C1 := fun W b (hb : vokB r c n = b) (e0 : W.cell? ⟨g, 0, none⟩ = some (.int .i64 r)) e1 e2 => c_l02Is g 0 r c a n cap b hb hn W e0 e1 e2
  have C2 := fun W b (hb : vokB r' c' n' = b) (e0 : W.cell? ⟨g', 0, none⟩ = some (.int .i64 r')) e1 e2 => c_l02Is g' 0 r' c' a' n' cap' b hb hn' W e0 e1 e2
  have D1 := Lib.hid C1
  have D2 := Lib.hid C2
  clear C1 C2
  cases e1 : vokB r c n with
  | false =>
    have E1 := Lib.hid e1
    have HB := Lib.hid (show fitB r c r' c' n n' = false by rw [fitB, e1]; rfl)
    clear e1
    rw [HB.out]
    go_enter Try.func46, Try.ntmps46
    go_wp2
    go_quiet ((go_at_call 59; exact quiet_drawn (D1.out _ false E1.out (by go_simp) (by go_simp) (by go_simp))))
    go_wp2
    go_ret
    exact ⟨rfl, Drawn.mk _ _⟩
  | true =>
    have E1 := Lib.hid e1
    cases e2 : vokB r' c' n' with
    | false =>
      have E2 := Lib.hid e2
      have HB := Lib.hid (show fitB r c r' c' n n' = false by rw [fitB, e1, e2]; rfl)
      clear e1 e2
      rw [HB.out]
      go_enter Try.func46, Try.ntmps46
      go_wp2
      go_quiet ((first | (go_at_call_of 59 (Value.pointer (some ⟨g, 0, none⟩)); exact quiet_drawn (D1.out _ true E1.out (by go_simp) (by go_simp) (by go_simp))) | (go_at_call_of 59 (Value.pointer (some ⟨g', 0, none⟩)); exact quiet_drawn (D2.out _ false E2.out (by go_simp) (by go_simp) (by go_simp)))))
      go_wp2
      go_ret
      exact ⟨rfl, Drawn.mk _ _⟩
    | true =>
      have E2 := Lib.hid e2
      cases e3 : (c == r') with
      | false =>
        have HB := Lib.hid (show fitB r c r' c' n n' = false by rw [fitB, e1, e2, e3]; rfl)
        clear e1 e2
        rw [HB.out]
        go_enter Try.func46, Try.ntmps46
        go_wp2
        go_quiet ((first | (go_at_call_of 59 (Value.pointer (some ⟨g, 0, none⟩)); exact quiet_drawn (D1.out _ true E1.out (by go_simp) (by go_simp) (by go_simp))) | (go_at_call_of 59 (Value.pointer (some ⟨g', 0, none⟩)); exact quiet_drawn (D2.out _ true E2.out (by go_simp) (by go_simp) (by go_simp)))))
        go_wp2
        go_ret
        exact ⟨rfl, Drawn.mk _ _⟩
      | true =>
        have HB := Lib.hid (show fitB r c r' c' n n' = true by rw [fitB, e1, e2, e3]; rfl)
        clear e1 e2
        rw [HB.out]
        go_enter Try.func46, Try.ntmps46
        go_wp2
        go_quiet ((first | (go_at_call_of 59 (Value.pointer (some ⟨g, 0, none⟩)); exact quiet_drawn (D1.out _ true E1.out (by go_simp) (by go_simp) (by go_simp))) | (go_at_call_of 59 (Value.pointer (some ⟨g', 0, none⟩)); exact quiet_drawn (D2.out _ true E2.out (by go_simp) (by go_simp) (by go_simp)))))
        go_wp2
        go_ret
        exact ⟨rfl, Drawn.mk _ _⟩
theorem mul_small' {R K i k : Nat} (hR : R ≤ 16) (hK : K ≤ 16) (hi : i < R) (hk : k < K) : i * K + k < 256 := by
  have e1 : (i + 1) * K ≤ R * K := Nat.mul_le_mul_right K hi
  have e2 : (i + 1) * K = i * K + K := by rw [Nat.add_mul, Nat.one_mul]
  have e3 : R * K ≤ 16 * 16 := Nat.mul_le_mul hR hK
  omega
end Go.Proofs.Ytkfpaehalfjhhaa
