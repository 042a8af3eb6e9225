/-
  The bytes of a state: the model. Conditions: the state can be stored.
-/
import Derived.Test.YtpobdigmjfapbaaDoorNby
import Derived.Test.YtpobdigmjfapbaaDoorAln
import Derived.Test.YtpobdigmjfapbaaDoorChk
namespace Go.Proofs.YtpobdigmjfapbaaDoor
open Go.RowKit Go.Deep Go.WideShapes Go.ChangeShapes
set_option linter.unusedVariables false
attribute [local go_sem] World.drewN_zero
attribute [local go_sem] size_mk wb_length nb_length

def endB (q : TrsA) : List UInt8 := (wb q.st.toNat 8 ++ wb q.sd.toNat 8) ++ nb [q.sc]
theorem stb_nums {q : TrsA} (h : stbB q = true) : (∃ n : Nat, q.st = n ∧ n ≤ 1000) ∧ (∃ n : Nat, q.sd = n ∧ n ≤ 2147483647) := by
  simp only [stbB, stepT, seedT, Bool.and_eq_true, decide_eq_true_eq] at h
  obtain ⟨_, _, ⟨h1, h2⟩, ⟨h3, h4⟩, _⟩ := h
  exact ⟨⟨q.st.toNat, by omega, by omega⟩, ⟨q.sd.toNat, by omega, by omega⟩⟩
theorem flt_one {w : World} {g : Nat} {x : Nat} (h : Blk w g 31 #[.float .f32 x]) (hx : x < 2 ^ 32) : IsFloats .f32 w (some ⟨g, 0, none⟩) [x].length 1 [x] := by
  refine ⟨Nat.le_refl _, by unfold maxLen; omega, rfl, ?_, .inr ⟨g, 0, rfl, h.lt, ?_⟩⟩
  · intro y hy; simp at hy; subst hy; exact hx
  · intro i hi
    simp at hi
    subst hi
    exact h.cell 0
set_option maxRecDepth 20000 in
set_option maxHeartbeats 2000000 in
theorem c_l08End (gt : Nat) (q : TrsA) (w : World) (h : TrsAt w q) (K : Blk w gt 51 q.cells) (hs : stbB q = true) :
    Calls Tryd.prog 97 #[.pointer (some ⟨gt, 0, none⟩)] w fun e w' => e = .returned (.string ⟨(endB q).toArray⟩) ∧ Below w.heap.size w w' := by
  obtain ⟨⟨st', h1, h2⟩, ⟨sd', h3, h4⟩⟩ := stb_nums hs
  obtain ⟨g, c, ls, g', c', ss, st, sd, sc⟩ := q
  simp only [TrsAt] at h
  obtain ⟨_, _, a3⟩ := h
  unfold TrsA.cells at K
  simp only [endB] at K h1 h3 ⊢
  subst h1 h3
  have HC := Lib.hid a3
  have HW1 := Lib.hid (fun W => c_l08Word st' 8 (by omega) (by omega) W)
  have HW2 := Lib.hid (fun W => c_l08Word sd' 8 (by omega) (by omega) W)
  have hz1 : ((st' : Nat) : Int).toNat = st' := Int.toNat_natCast _
  have hz2 : ((sd' : Nat) : Int).toNat = sd' := Int.toNat_natCast _
  rw [hz1, hz2]
  obtain ⟨n, hn⟩ : ∃ n, ls.length = n := ⟨_, rfl⟩
  obtain ⟨m, hm⟩ : ∃ m, ss.length = m := ⟨_, rfl⟩
  rw [hn, hm] at K
  obtain ⟨p0, p1, p2, p3, p4, p5⟩ := tbt5 K
  have bl : Below w.heap.size w w.drew := (Below.refl _ _).drew
  have K0 := Lib.hid (K.below bl)
  have B0 := Lib.hid bl
  clear K hs hz1 hz2 hn hm bl h2 h4
  have n2 : w.heap.size ≠ gt := Nat.ne_of_gt p5
  go_enter Tryd.func97, Tryd.ntmps97
  go_wp2_with fail
  go_region_held3 (fun w' => w'.cell? ⟨gt, 2, none⟩ = some (.int .i64 (st' : Int)) ∧ w'.cell? ⟨gt, 3, none⟩ = some (.int .i64 (sd' : Int)) ∧ w'.cell? ⟨gt, 4, none⟩ = some (.float .f32 sc)) (go_keep)
    (first
      | (go_at_call_of 71 (Value.int .i64 (st' : Int))
         first
           | (refine (HW1.out w.drew).mono ?_
              rintro e w2 ⟨rfl, bl⟩
              have K1 := Lib.hid (K0.out.below bl)
              have B1 := Lib.hid (Below.next B0.out bl)
              clear bl p0 p1 p2 p3 p4 p5
              obtain ⟨p0, p1, p2, p3, p4, p5⟩ := tbt5 K1.out
              have nw2 : w2.heap.size ≠ gt := Nat.ne_of_gt p5)
           | (have al := (Below.refl w.drew.heap.size w.drew).alloc (Nat.le_refl _) (.cells #[.float .f32 sc] 31)
              have SB0 := Lib.hid (Blk.new w.drew 31 #[.float .f32 sc])
              have K0b := Lib.hid (K0.out.below al)
              have B0b := Lib.hid (Below.next B0.out al)
              clear al
              refine (HW1.out (w.drew.alloc (.cells #[.float .f32 sc] 31))).mono ?_
              rintro e w2 ⟨rfl, bl⟩
              have SB1 := Lib.hid (SB0.out.below bl)
              have K1 := Lib.hid (K0b.out.below bl)
              have B1 := Lib.hid (Below.next B0b.out bl)
              clear bl p0 p1 p2 p3 p4 p5
              obtain ⟨p0, p1, p2, p3, p4, p5⟩ := tbt5 K1.out
              have nw2 : w2.heap.size ≠ gt := Nat.ne_of_gt p5))
      | (go_at_call 71
         first
           | (have SB1b := Lib.hid SB1.out
              refine (HW2.out w2).mono ?_
              rintro e w3 ⟨rfl, bl⟩
              have SB2 := Lib.hid (SB1b.out.below bl)
              have K2 := Lib.hid (K1.out.below bl)
              have B2 := Lib.hid (Below.next B1.out bl)
              clear bl p0 p1 p2 p3 p4 p5
              obtain ⟨p0, p1, p2, p3, p4, p5⟩ := tbt5 K2.out
              have nw3 : w3.heap.size ≠ gt := Nat.ne_of_gt p5)
           | (refine (HW2.out w2).mono ?_
              rintro e w3 ⟨rfl, bl⟩
              have K2 := Lib.hid (K1.out.below bl)
              have B2 := Lib.hid (Below.next B1.out bl)
              clear bl p0 p1 p2 p3 p4 p5
              obtain ⟨p0, p1, p2, p3, p4, p5⟩ := tbt5 K2.out
              have nw3 : w3.heap.size ≠ gt := Nat.ne_of_gt p5)
           | (have al := (Below.refl w2.heap.size w2).alloc (Nat.le_refl _) (.cells #[.float .f32 sc] 31)
              have SB1 := Lib.hid (Blk.new w2 31 #[.float .f32 sc])
              have K1b := Lib.hid (K1.out.below al)
              have B1b := Lib.hid (Below.next B1.out al)
              clear al
              refine (HW2.out (w2.alloc (.cells #[.float .f32 sc] 31))).mono ?_
              rintro e w3 ⟨rfl, bl⟩
              have SB2 := Lib.hid (SB1.out.below bl)
              have K2 := Lib.hid (K1b.out.below bl)
              have B2 := Lib.hid (Below.next B1b.out bl)
              clear bl p0 p1 p2 p3 p4 p5
              obtain ⟨p0, p1, p2, p3, p4, p5⟩ := tbt5 K2.out
              have nw3 : w3.heap.size ≠ gt := Nat.ne_of_gt p5))
      | (go_at_call 50
         first
           | (have HF := Lib.hid (flt_one SB2.out HC.out)
              refine (c_l08Bytes _ 1 [sc] w3 HF.out (by simp)).mono ?_
              rintro e w5 ⟨rfl, bl⟩
              have K5 := Lib.hid (K2.out.below bl)
              have B5 := Lib.hid (Below.next B2.out bl)
              clear bl p0 p1 p2 p3 p4 p5
              obtain ⟨p0, p1, p2, p3, p4, p5⟩ := tbt5 K5.out)
           | (have al := (Below.refl w3.heap.size w3).alloc (Nat.le_refl _) (.cells #[.float .f32 sc] 31)
              have K3 := Lib.hid (K2.out.below al)
              have B3 := Lib.hid (Below.next B2.out al)
              have HF := Lib.hid (flt_one (Blk.new w3 31 #[.float .f32 sc]) HC.out)
              clear al
              refine (c_l08Bytes _ 1 [sc] _ HF.out (by simp)).mono ?_
              rintro e w5 ⟨rfl, bl⟩
              have K5 := Lib.hid (K3.out.below bl)
              have B5 := Lib.hid (Below.next B3.out bl)
              clear bl p0 p1 p2 p3 p4 p5
              obtain ⟨p0, p1, p2, p3, p4, p5⟩ := tbt5 K5.out)))
  all_goals
    go_wp2_with fail
    go_ret
    exact ⟨rfl, B5.out⟩
end Go.Proofs.YtpobdigmjfapbaaDoor
