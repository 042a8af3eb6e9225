/-
  ValidExamples answers as its model says, for all examples, and changes none of them. Conditions: none.
-/
import Derived.Test.YthklfkfhhdglcaaExa
import Derived.ChangeOld
import Derived.Below
namespace Go.Proofs.Ythklfkfhhdglcaa.fnExactValidExamples
open Go.ChangeShapes Go.WideShapes Go.ChangeAt Go.RowKit
open Go.ChangeMaps (open_string shut_string)
set_option linter.unusedVariables false

theorem walk (v0 : Value) (w : World) (w0 : ∃ q : ExaA, v0 = .agg #[.int .i64 q.r, .int .i64 q.c, .slice q.a q.x.length q.ca, .int .i64 q.r', .int .i64 q.c', .slice q.b q.y.length q.cb] ∧ IsFloats .f32 w q.a q.x.length q.ca q.x ∧ IsFloats .f32 w q.b q.y.length q.cb q.y) :
    Calls Try.prog 8 #[v0] w fun e w' => e = .returned (.bool true) ∧ Below w.heap.size w w' := by
  obtain ⟨⟨r, c, r', c', x, y, a, b, ca, cb⟩, rfl, hx, hy⟩ := w0
  simp only at hx hy ⊢
  have hn : x.length ≤ 9223372036854775807 := by have h1 := hx.1; have h2 := hx.2.1; unfold maxLen at h2; omega
  have hm : y.length ≤ 9223372036854775807 := by have h1 := hy.1; have h2 := hy.2.1; unfold maxLen at h2; omega
  have HX := Lib.hid hx
  have HY := Lib.hid hy
  have K0 := Lib.hid (Blk.new w 46 #[.int .i64 r, .int .i64 c, .slice a x.length ca, .int .i64 r', .int .i64 c', .slice b y.length cb])
  have B0 := Lib.hid ((Below.refl w.heap.size w).alloc (Nat.le_refl _) (.cells #[.int .i64 r, .int .i64 c, .slice a x.length ca, .int .i64 r', .int .i64 c', .slice b y.length cb] 46))
  clear hx hy
  by_cases hL : x.length + y.length ≤ 1048576
  case neg =>
    have HL := Lib.hid (show 1048576 < x.length + y.length by omega)
    clear hL
    go_enter Try.func8, Try.ntmps8
    go_wp2_with fail
    generalize w.alloc (.cells #[.int .i64 r, .int .i64 c, .slice a x.length ca, .int .i64 r', .int .i64 c', .slice b y.length cb] 46) = w1 at K0 B0 ⊢
    refine (c_szExa_no r c r' c' a b _ _ ca cb 1048576 _ (Nat.le_refl _) HL.out hn hm).mono ?_
    rintro e w2 ⟨rfl, hb⟩
    have B2 := Lib.hid (Below.next B0.out hb)
    clear hb
    go_wp2_with fail
    go_ret
    exact ⟨rfl, B2.out⟩
  case pos =>
    obtain ⟨l, hl⟩ : ∃ l, 1048576 - (x.length + y.length) = l := ⟨_, rfl⟩
    have HL := Lib.hid hL
    have HE := Lib.hid hl
    have hl0 : (0 : Int) ≤ (l : Int) := by omega
    have HTO := Lib.hid (fun w1 (hb : Below w.heap.size w w1) => c_toExa r c r' c' a b ca cb x y w1 (HX.out.kept hb) (HY.out.kept hb) (by omega) (by omega))
    have HS := Lib.hid (fun a b w1 h1 h2 => t_sValidExamples r c r' c' x y a b w1 h1 h2)
    have HI := Lib.hid (fun a b w1 h1 h2 => t_iValidExamples r c r' c' x y a b w1 h1 h2)
    obtain ⟨v, hv⟩ : ∃ v, vValidExamples r c r' c' x y = v := ⟨_, rfl⟩
    rw [hv] at HS HI
    clear hL hl hv
    go_enter Try.func8, Try.ntmps8
    go_wp2_with fail
    generalize w.alloc (.cells #[.int .i64 r, .int .i64 c, .slice a x.length ca, .int .i64 r', .int .i64 c', .slice b y.length cb] 46) = w1 at K0 B0 ⊢
    refine (c_szExa r c r' c' a b _ _ ca cb 1048576 l _ (Nat.le_refl _) HL.out HE.out).mono ?_
    rintro e w2 ⟨rfl, hb⟩
    have K2 := Lib.hid (K0.out.below hb)
    have B2 := Lib.hid (Below.next B0.out hb)
    clear hb K0 B0
    obtain ⟨p0, p1, p2, p3, p4, p5, p6⟩ := tb6 K2.out
    go_wp2_with fail
    clear p0 p1 p2 p3 p4 p5 p6
    refine (HTO.out _ B2.out).mono ?_
    rintro e w3 ⟨a3, b3, rfl, ha, hb', _, hb⟩
    have K3 := Lib.hid (K2.out.below hb)
    have B3 := Lib.hid (Below.next B2.out hb)
    have A3 := Lib.hid ha.isFloats
    have C3 := Lib.hid hb'.isFloats
    clear ha hb' hb K2 B2
    go_wp2_with fail
    refine (HS.out _ _ _ A3.out C3.out).mono ?_
    rintro e w4 ⟨rfl, hb⟩
    have K4 := Lib.hid (K3.out.below hb)
    have B4 := Lib.hid (Below.next B3.out hb)
    clear hb K3 B3 A3 C3
    obtain ⟨p0, p1, p2, p3, p4, p5, p6⟩ := tb6 K4.out
    go_wp2_with fail
    clear p0 p1 p2 p3 p4 p5 p6
    refine (HTO.out _ B4.out).mono ?_
    rintro e w5 ⟨a5, b5, rfl, ha, hb', _, hb⟩
    have K5 := Lib.hid (K4.out.below hb)
    have B5 := Lib.hid (Below.next B4.out hb)
    have A5 := Lib.hid ha.isFloats
    have C5 := Lib.hid hb'.isFloats
    clear ha hb' hb K4 B4
    go_wp2_with fail
    have al := (Below.refl w5.heap.size w5).alloc (Nat.le_refl _) (.cells #[.int .i64 r, .int .i64 c, .slice a5 x.length x.length, .int .i64 r', .int .i64 c', .slice b5 y.length y.length] 51)
    have X6 := Lib.hid (Blk.new w5 51 #[.int .i64 r, .int .i64 c, .slice a5 x.length x.length, .int .i64 r', .int .i64 c', .slice b5 y.length y.length])
    have K6 := Lib.hid (K5.out.below al)
    have B6 := Lib.hid (Below.next B5.out al)
    have A6 := Lib.hid (A5.out.kept al)
    have C6 := Lib.hid (C5.out.kept al)
    clear al K5 B5 A5 C5
    generalize w5.alloc (.cells #[.int .i64 r, .int .i64 c, .slice a5 x.length x.length, .int .i64 r', .int .i64 c', .slice b5 y.length y.length] 51) = w6 at X6 K6 B6 A6 C6 ⊢
    obtain ⟨q0, q1, q2, q3, q4, q5, q6⟩ := tb6 X6.out
    try go_wp2_with fail
    clear q0 q1 q2 q3 q4 q5 q6
    refine (HI.out _ _ _ A6.out C6.out).mono ?_
    rintro e w7 ⟨rfl, hb⟩
    have X7 := Lib.hid (X6.out.below hb)
    have K7 := Lib.hid (K6.out.below hb)
    have B7 := Lib.hid (Below.next B6.out hb)
    have A7 := Lib.hid (A6.out.kept hb)
    have C7 := Lib.hid (C6.out.kept hb)
    clear hb X6 K6 B6 A6 C6
    obtain ⟨q0, q1, q2, q3, q4, q5, q6⟩ := tb6 X7.out
    obtain ⟨p0, p1, p2, p3, p4, p5, p6⟩ := tb6 K7.out
    go_wp2_with fail
    clear q0 q1 q2 q3 q4 q5 q6 p0 p1 p2 p3 p4 p5 p6
    have bl : Below w7.heap.size w7 w7.drew := (Below.refl _ _).drew
    have X8 := Lib.hid (X7.out.below bl)
    have K8 := Lib.hid (K7.out.below bl)
    have B8 := Lib.hid (Below.next B7.out bl)
    have A8 := Lib.hid (A7.out.kept bl)
    have C8 := Lib.hid (C7.out.kept bl)
    clear bl X7 K7 B7 A7 C7
    obtain ⟨q0, q1, q2, q3, q4, q5, q6⟩ := tb6 X8.out
    obtain ⟨p0, p1, p2, p3, p4, p5, p6⟩ := tb6 K8.out
    go_region_held3 (fun w' => w'.cell? ⟨w.heap.size, 0, none⟩ = some (.int .i64 r) ∧ w'.cell? ⟨w.heap.size, 1, none⟩ = some (.int .i64 c) ∧ w'.cell? ⟨w.heap.size, 2, none⟩ = some (.slice a x.length ca) ∧ w'.cell? ⟨w.heap.size, 3, none⟩ = some (.int .i64 r') ∧ w'.cell? ⟨w.heap.size, 4, none⟩ = some (.int .i64 c') ∧ w'.cell? ⟨w.heap.size, 5, none⟩ = some (.slice b y.length cb) ∧ w'.cell? ⟨w5.heap.size, 0, none⟩ = some (.int .i64 r) ∧ w'.cell? ⟨w5.heap.size, 1, none⟩ = some (.int .i64 c) ∧ w'.cell? ⟨w5.heap.size, 2, none⟩ = some (.slice a5 x.length x.length) ∧ w'.cell? ⟨w5.heap.size, 3, none⟩ = some (.int .i64 r') ∧ w'.cell? ⟨w5.heap.size, 4, none⟩ = some (.int .i64 c') ∧ w'.cell? ⟨w5.heap.size, 5, none⟩ = some (.slice b5 y.length y.length)) (go_keep)
      (first
        | (go_at_call 32
           refine (HTO.out _ B8.out).mono ?_
           rintro e w9 ⟨a9, b9, rfl, ha, hb', _, hb⟩
           have X9 := Lib.hid (X8.out.below hb)
           have K9 := Lib.hid (K8.out.below hb)
           have B9 := Lib.hid (Below.next B8.out hb)
           have A9 := Lib.hid ha.isFloats
           have C9 := Lib.hid hb'.isFloats
           have A9' := Lib.hid (A8.out.kept hb)
           have C9' := Lib.hid (C8.out.kept hb)
           obtain ⟨q0, q1, q2, q3, q4, q5, q6⟩ := tb6 X9.out
           obtain ⟨p0, p1, p2, p3, p4, p5, p6⟩ := tb6 K9.out
           clear ha hb' hb)
        | (go_at_call 34
           refine (c_eqExa r c r' c' _ _ _ _ _ _ _ _ x y x y _ A9'.out C9'.out A9.out C9.out rfl rfl).mono ?_
           rintro e w10 ⟨rfl, hb⟩
           have B10 := Lib.hid (Below.next B9.out hb)
           obtain ⟨q0, q1, q2, q3, q4, q5, q6⟩ := tb6 (X9.out.below hb)
           obtain ⟨p0, p1, p2, p3, p4, p5, p6⟩ := tb6 (K9.out.below hb)
           clear hb))
    clear q0 q1 q2 q3 q4 q5 q6 p0 p1 p2 p3 p4 p5 p6
    go_wp2_with fail
    go_ret
    exact ⟨rfl, B10.out⟩

/-! the row's step -/
set_option maxRecDepth 100000 in
theorem lifted (os : Os) (started : os.Started) (H : Type) (enc : TypeId × Value → H) :
    ReturnsInHanded {} Try.checked os 8 .any (Rows.fnExactValidExamplesSpec.pre6 enc Try.prog Try.f8 Rows.fnExactValidExamplesRow.domain false) (Rows.fnExactValidExamplesSpec.post enc Try.prog Try.f8 false true false false) := by
  refine returnsInHanded_of_change (C := Try.checked) own started (by kernel_rfl) Try.func8
    (ChangeSpec.witness6 (enc := enc) (C := Try.checked) false ⟨#[], #[.agg #[.int .i64 0, .int .i64 0, .slice none 0 0, .int .i64 0, .int .i64 0, .slice none 0 0]], []⟩ 8 (by kernel_rfl) (by kernel_rfl) (by kernel_rfl) (by kernel_rfl)) ?_
  intro W base args ds gs before hval0 hW hcnd _
  have hval : ∀ (j : Nat) t v, Try.f8.params[j]? = some t → args[j]? = some v → Value.okWide Try.prog W .any base t v := hval0
  have hW' := hW
  obtain ⟨p, q, hA0, hV, rfl, hfz, hnd⟩ := hW
  have hA : DataW.TrodAll enc Try.prog W 0 (fun _ => true) true Try.f8.params.toList args.toList ds p := hA0
  rw [Try.params8] at hA hval
  obtain ⟨v0, vs0, d0, ds0, p0, q0, hargs, rfl, rfl, h0, rest0⟩ := trodAll_cons hA
  obtain ⟨rfl, rfl, rfl⟩ := trodAll_nil rest0
  obtain rfl : args = #[v0] := by cases args; simp_all
  obtain ⟨rfl, rfl⟩ := trodVars_none hV
  have k0 := h0
  have lt0 : ∀ x ∈ p0, x.block < W.heap.size := by obtain ⟨m, hm⟩ := k0; exact DataW.trod_lt m _ _ _ hm
  have w0 := open_Exa (hval 0 46 v0 rfl rfl) h0
  clear hA0 hval0
  refine (walk _ W w0).mono fun e W' ⟨he, bel⟩ => ?_
  subst he
  exact ⟨_, rfl, _, _, _, [], _, [], hW', trodAll_mk1 (shut_bool Try.underlying4 _), (trodAll_cons_mk (Below.trod laidOut (by kernel_rfl) (of_decide_eq_true (by kernel_rfl)) k0 bel lt0) trodAll_mk0), rfl, bel.frame _, fun h => by cases h⟩

theorem over : Rows.fnExactValidExamplesRow.holds Try.pinned (OpenSpec.ofChange Rows.fnExactValidExamplesSpec) :=
  OpenClaim.holds_of_wide 8 Try.f8 rfl rfl rfl rfl rfl rfl rfl ⟨rfl, rfl, rfl, rfl, rfl⟩ rfl rfl rfl rfl rfl (by kernel_rfl) Try.func8 (by kernel_rfl)
    (of_decide_eq_true (by kernel_rfl)) (by unfold Func.isWrapper; first | (rw [if_pos (by decide +kernel)]; kernel_rfl) | (rw [if_neg (by decide +kernel)]; exact ⟨rfl, rfl⟩))
    (fun os started H enc _ => lifted os started H enc)

/-- the statement -/
theorem proved : Rows.FnExactValidExamplesSaid := over
end Go.Proofs.Ythklfkfhhdglcaa.fnExactValidExamples
