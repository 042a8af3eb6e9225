/-
  PickRows: the model and the program. Conditions: none.
-/
import Derived.Test.YthklfkfhhdglcaaPci
import Derived.Test.YthklfkfhhdglcaaAll
import Derived.Deep.QuietTactic
namespace Go.Proofs.Ythklfkfhhdglcaa
open Go.RowKit Go.Deep Go.WideShapes Go.ChangeShapes
set_option linter.unusedVariables false
attribute [local go_sem] World.drewN_zero

theorem c_isAllIC (F : FuncId) (caps : Array Value) (p : Int → Bool) (a : Option Addr) (n cap : Nat) (zs : List Int) (w : World) (h : IsRow .i64 w a n cap zs) (hE : ∀ (xs : Array Value) (wr : World), (callFunc F xs).run Try.prog wr = .ok (.enter F xs) wr)
    (hF : ∀ (x : Int) (wr : World), Below w.heap.size w wr → (Lit.int .i64 x).wf = true → x ∈ zs → Calls Try.prog F (#[.int .i64 x] ++ caps) wr fun e w' => e = .returned (.bool (p x)) ∧ wr = w') :
    Calls Try.prog 87 #[.slice a n cap, .func (.func F) #[] caps] w fun e w' => e = .returned (.bool (zs.all p)) ∧ Below w.heap.size w w' := by
  have K := Lib.hid (Blk.new w 38 #[.func (.func F) #[] caps])
  have al := (Below.refl w.heap.size w).alloc (Nat.le_refl _) (.cells #[.func (.func F) #[] caps] 38)
  have B := Lib.hid al
  have HF := Lib.hid (isRow_kept h al)
  have H1 : ∀ (x : Int), (Lit.int .i64 x).wf = true → x ∈ zs → Calls Try.prog 136 (#[.int .i64 x] ++ #[.pointer (some ⟨w.heap.size, 0, none⟩)]) (w.alloc (.cells #[.func (.func F) #[] caps] 38)) fun e w' => e = .returned (.bool (!p x)) ∧ (w.alloc (.cells #[.func (.func F) #[] caps] 38)) = w' := by
    intro x hx hm
    show Calls Try.prog 136 #[.int .i64 x, .pointer (some ⟨w.heap.size, 0, none⟩)] _ _
    have c0 := K.out.cell 0
    have HC := Lib.hid (hF x (w.alloc (.cells #[.func (.func F) #[] caps] 38)) al hx hm)
    generalize w.alloc (.cells #[.func (.func F) #[] caps] 38) = w1 at *
    clear hx hm hF h al
    go_enter Try.func136, Try.ntmps136
    go_wp2_with fail
    refine HC.out.mono ?_
    rintro e w2 ⟨rfl, rfl⟩
    go_wp2_with fail
    go_ret
    exact ⟨rfl, rfl⟩
  have HC := Lib.hid (c_containsI 136 #[.pointer (some ⟨w.heap.size, 0, none⟩)] (fun x => !p x) a n cap zs _ HF.out (enters_of Try.func136 (by kernel_rfl) (by kernel_rfl)) H1)
  clear H1 hF h al
  go_enter Try.func87, Try.ntmps87
  go_wp2_with fail
  refine HC.out.mono ?_
  rintro e w2 ⟨rfl, rfl⟩
  go_wp2_with fail
  go_ret
  exact ⟨ret_b (all_any p zs), B.out⟩

theorem quiet_same {P : Program} {f : FuncId} {args : Array Value} {w : World} {n : Nat} {v : Value}
    (h : Calls P f args (w.drewN n) fun e w' => e = .returned v ∧ w.drewN n = w') : Calls P f args (w.drewN n) fun e w'' => e = .returned v ∧ ∃ m, w'' = w.drewN m :=
  h.mono fun _ _ ⟨he, hw⟩ => ⟨he, n, hw.symm⟩
def inB (r v : Int) : Bool := decide (0 ≤ v) && decide (v ≤ r - 1)
def okPick (r c r' c' : Int) (n m : Nat) (rows : List Int) : Bool := (exaB r c r' c' n m && (decide (1 ≤ rows.length) && decide (rows.length ≤ 16))) && rows.all (inB r)
def vPick (r c r' c' : Int) (x y : List Nat) (rows : List Int) : Bool × Int × Int × Int × List Nat × List Nat :=
  if okPick r c r' c' x.length y.length rows = true then (true, (rows.length : Int), c, c', rowsF c.toNat x rows, rowsF c'.toNat y rows) else (false, 0, 0, 0, [], [])
theorem vPick_no {r c r' c' : Int} {x y : List Nat} {rows : List Int} (h : okPick r c r' c' x.length y.length rows = false) : vPick r c r' c' x y rows = (false, 0, 0, 0, [], []) := by unfold vPick; rw [h]; rfl
theorem vPick_yes {r c r' c' : Int} {x y : List Nat} {rows : List Int} (h : okPick r c r' c' x.length y.length rows = true) : vPick r c r' c' x y rows = (true, (rows.length : Int), c, c', rowsF c.toNat x rows, rowsF c'.toNat y rows) := by unfold vPick; rw [h]; rfl
def RetPk (v : Bool × Int × Int × Int × List Nat × List Nat) (w : World) (e : Ending) (w' : World) : Prop :=
  ∃ a ca b cb, e = .returned (.tuple #[.agg #[.int .i64 v.2.1, .int .i64 v.2.2.1, .slice a v.2.2.2.2.1.length ca, .int .i64 v.2.1, .int .i64 v.2.2.2.1, .slice b v.2.2.2.2.2.length cb], .bool v.1]) ∧ OwnF w' w.heap.size a ca v.2.2.2.2.1 ∧ OwnF w' w.heap.size b cb v.2.2.2.2.2 ∧ (∀ g, blk a = some g → blk b ≠ some g) ∧ Below w.heap.size w w'
theorem retPk_no {w w' : World} (h : Below w.heap.size w w') : RetPk (false, 0, 0, 0, [], []) w (.returned (.tuple #[.agg #[.int .i64 0, .int .i64 0, .slice none 0 0, .int .i64 0, .int .i64 0, .slice none 0 0], .bool false])) w' :=
  ⟨none, 0, none, 0, rfl, nil_own _ _, nil_own _ _, (fun g h => by cases h), h⟩
theorem exa_nat {r c r' c' : Int} {n m : Nat} (h : exaB r c r' c' n m = true) : ∃ R C C' : Nat, r = R ∧ r' = R ∧ c = C ∧ c' = C' ∧ 1 ≤ R ∧ R ≤ 16 ∧ 1 ≤ C ∧ C ≤ 16 ∧ 1 ≤ C' ∧ C' ≤ 16 ∧ n = R * C ∧ m = R * C' := by
  simp only [exaB, Bool.and_eq_true, beq_iff_eq] at h
  obtain ⟨⟨h1, h2⟩, h3⟩ := h
  obtain ⟨R, C, e1, e2, a1, a2, a3, a4, a5⟩ := vok_nat h1
  obtain ⟨R', C', e1', e2', b1, b2, b3, b4, b5⟩ := vok_nat h2
  have : R' = R := by omega
  subst this
  exact ⟨R', C, C', e1, e1', e2, e2', a1, a2, a3, a4, b3, b4, a5, b5⟩
theorem inB_all {R : Nat} {rows : List Int} (h : rows.all (inB R) = true) : ∀ y ∈ rows, 0 ≤ y ∧ y < R := by
  intro y hy
  have := List.all_eq_true.1 h y hy
  simp [inB] at this
  omega
set_option maxRecDepth 20000 in
set_option maxHeartbeats 2000000 in
theorem c_iExaPick (R C C' : Nat) (a b : Option Addr) (n m ca cb : Nat) (x y : List Nat) (rows : List Int) (ra : Option Addr) (rc : Nat) (w : World) (hx : IsFloats .f32 w a n ca x) (hy : IsFloats .f32 w b m cb y) (hR : R ≤ 16) (h1 : 1 ≤ C) (h2 : C ≤ 16) (h3 : 1 ≤ C') (h4 : C' ≤ 16) (hn : n = R * C) (hm : m = R * C')
    (hr : IsRow .i64 w ra rows.length rc rows) (hall : ∀ y ∈ rows, 0 ≤ y ∧ y < R) (h16 : rows.length ≤ 16) :
    Calls Try.prog 88 #[.agg #[.int .i64 R, .int .i64 C, .slice a n ca, .int .i64 R, .int .i64 C', .slice b m cb], .slice ra rows.length rc] w fun e w' => ∃ a2 c2 b2 d2, e = .returned (.agg #[.int .i64 rows.length, .int .i64 C, .slice a2 (rowsF C x rows).length c2, .int .i64 rows.length, .int .i64 C', .slice b2 (rowsF C' y rows).length d2]) ∧ OwnF w' w.heap.size a2 c2 (rowsF C x rows) ∧ OwnF w' w.heap.size b2 d2 (rowsF C' y rows) ∧ (∀ g, blk a2 = some g → blk b2 ≠ some g) ∧ Below w.heap.size w w' := by
  have HX := Lib.hid hx
  have HY := Lib.hid hy
  have HRW := Lib.hid hr
  have HALL := Lib.hid hall
  have HN := Lib.hid hn
  have HM := Lib.hid hm
  obtain ⟨L, hL⟩ : ∃ L, rows.length = L := ⟨_, rfl⟩
  have HL := Lib.hid hL
  obtain ⟨P, hP⟩ : ∃ P, rowsF C x rows = P := ⟨_, rfl⟩
  obtain ⟨Q, hQ⟩ : ∃ Q, rowsF C' y rows = Q := ⟨_, rfl⟩
  have HC1 := Lib.hid (fun w1 (hb : Below w.heap.size w w1) => c_iPick R C a n ca x rows ra rc w1 (HX.out.kept hb) hR h1 h2 HN.out (rowKept HRW.out hb) HALL.out h16)
  have HC2 := Lib.hid (fun w1 (hb : Below w.heap.size w w1) => c_iPick R C' b m cb y rows ra rc w1 (HY.out.kept hb) hR h3 h4 HM.out (rowKept HRW.out hb) HALL.out h16)
  rw [hP] at HC1
  rw [hQ] at HC2
  rw [hL] at HC1 HC2
  rw [hP, hQ, hL]
  have k1 := (Blk.new w 51 #[.int .i64 R, .int .i64 C, .slice a n ca, .int .i64 R, .int .i64 C', .slice b m cb]).below ((Below.refl _ _).alloc (Nat.le_refl _) (.cells #[.int .i64 0, .int .i64 0, .slice none 0 0, .int .i64 0, .int .i64 0, .slice none 0 0] 51))
  have k2 := Blk.new (w.alloc (.cells #[.int .i64 R, .int .i64 C, .slice a n ca, .int .i64 R, .int .i64 C', .slice b m cb] 51)) 51 #[.int .i64 0, .int .i64 0, .slice none 0 0, .int .i64 0, .int .i64 0, .slice none 0 0]
  have b0 := ((Below.refl w.heap.size w).alloc (Nat.le_refl _) (.cells #[.int .i64 R, .int .i64 C, .slice a n ca, .int .i64 R, .int .i64 C', .slice b m cb] 51)).alloc (by simp) (.cells #[.int .i64 0, .int .i64 0, .slice none 0 0, .int .i64 0, .int .i64 0, .slice none 0 0] 51)
  simp only [World.size_alloc] at k2
  have K1 := Lib.hid k1
  have K2 := Lib.hid k2
  have B0 := Lib.hid b0
  clear hx hy hr hall hn hm hL hP hQ k1 k2 b0 h16
  go_enter Try.func88, Try.ntmps88
  go_wp2_with fail
  generalize (w.alloc (.cells #[.int .i64 R, .int .i64 C, .slice a n ca, .int .i64 R, .int .i64 C', .slice b m cb] 51)).alloc (.cells #[.int .i64 0, .int .i64 0, .slice none 0 0, .int .i64 0, .int .i64 0, .slice none 0 0] 51) = w1 at K1 K2 B0 ⊢
  have bd : Below w1.heap.size w1 w1.drew := (Below.refl _ _).drew
  have K1d := Lib.hid (K1.out.below bd)
  have K2d := Lib.hid (K2.out.below bd)
  have B0d := Lib.hid (Below.next B0.out bd)
  obtain ⟨p0, p1, p2, p3, p4, p5, p6⟩ := tb6 K1d.out
  obtain ⟨q0, q1, q2, q3, q4, q5, q6⟩ := tb6 K2d.out
  obtain ⟨f0, f1, f2, f3, f4, f5⟩ := tbf6 K2d.out
  have S1 := Lib.hid (show w.heap.size + 1 < w1.drew.heap.size from K2d.out.lt)
  clear bd K1 K2 B0
  go_region_law (first
    | (go_simp
       go_at_call_of 137 (Value.agg #[.int .i64 R, .int .i64 C, .slice a n ca])
       refine (HC1.out _ B0d.out).mono ?_
       rintro e w3 ⟨a2, c2, rfl, hf, hb⟩
       have A3 := Lib.hid hf
       have K13 := Lib.hid (K1d.out.below hb)
       have K23 := Lib.hid (K2d.out.below hb)
       have B3 := Lib.hid (Below.next B0d.out hb)
       have S3 := Lib.hid (show w.heap.size + 1 < w3.heap.size from K23.out.lt)
       obtain ⟨p0, p1, p2, p3, p4, p5, p6⟩ := tb6 K13.out
       obtain ⟨q0, q1, q2, q3, q4, q5, q6⟩ := tb6 K23.out
       obtain ⟨f0, f1, f2, f3, f4, f5⟩ := tbf6 K23.out
       clear hf hb)
    | (go_simp
       go_at_call_of 137 (Value.agg #[.int .i64 R, .int .i64 C', .slice b m cb])
       refine (HC2.out _ B3.out).mono ?_
       rintro e w4 ⟨b2, d2, rfl, hf, hb⟩
       have NAB := Lib.hid (lt_apart A3.out.lt hf.lt)
       have A4 := Lib.hid (A3.out.kept hb)
       have C4 := Lib.hid hf
       have K24 := Lib.hid (K23.out.below hb)
       have B4 := Lib.hid (Below.next B3.out hb)
       obtain ⟨p0, p1, p2, p3, p4, p5, p6⟩ := tb6 (K13.out.below hb)
       obtain ⟨q0, q1, q2, q3, q4, q5, q6⟩ := tb6 K24.out
       obtain ⟨f0, f1, f2, f3, f4, f5⟩ := tbf6 K24.out
       clear hf hb))
  all_goals
    obtain ⟨hk, hg⟩ := store6 K24.out (y0 := .int .i64 L) (y1 := .int .i64 C) (y2 := .slice a2 P.length c2) (y3 := .int .i64 L) (y4 := .int .i64 C') (y5 := .slice b2 Q.length d2)
    have A5 := Lib.hid (A4.out.apart (b := some ⟨w.heap.size + 1, 0, none⟩) hg (fun g h1 h2 => by have := (A4.out.lt g h1).1; have := S1.out; simp [blk] at h2; omega))
    have C5 := Lib.hid (C4.out.apart (b := some ⟨w.heap.size + 1, 0, none⟩) hg (fun g h1 h2 => by have := (C4.out.lt g h1).1; have := S3.out; simp [blk] at h2; omega))
    have B5 := Lib.hid (Below.at_ B4.out hg (by omega))
    have T1 := Lib.hid (show w.heap.size ≤ w1.drew.heap.size by have := S1.out; omega)
    have T3 := Lib.hid (show w.heap.size ≤ w3.heap.size by have := S3.out; omega)
    obtain ⟨m0, m1, m2, m3, m4, m5, m6⟩ := tb6 hk
    clear hk hg p0 p1 p2 p3 p4 p5 p6 q0 q1 q2 q3 q4 q5 q6 f0 f1 f2 f3 f4 f5
    go_wp2_with fail
    exact bodyPost_ret (v := .agg #[.int .i64 L, .int .i64 C, .slice a2 P.length c2, .int .i64 L, .int .i64 C', .slice b2 Q.length d2]) (by simp [results, Try.results88, go_sem, m0, m1, m2, m3, m4, m5]) rfl ⟨a2, c2, b2, d2, rfl, A5.out.base T1.out, C5.out.base T3.out, NAB.out, B5.out⟩
end Go.Proofs.Ythklfkfhhdglcaa
