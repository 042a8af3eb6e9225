/-
  Words for labs by value, and what the law's own helpers do: sizes, copies, comparing. Conditions: the cells can be read.
-/
import Derived.Test.YtaipegkkpkagnaaExa
import Derived.Test.YtaipegkkpkagnaaSmn
import Derived.Test.YtaipegkkpkagnaaVOpt
namespace Go.Proofs.Ytaipegkkpkagnaa
open Go.RowKit Go.Deep Go.WideShapes Go.ChangeShapes
set_option linter.unusedVariables false
set_option linter.unusedSimpArgs false

structure LabA where
  k : Int
  r : Nat
  b1 : Nat
  b2 : Nat
  ep : Nat
  er : Int
  ec : Int
  er2 : Int
  ec2 : Int
  ex : List Nat
  ey : List Nat
  ea : Option Addr
  eb : Option Addr
  eca : Nat
  ecb : Nat
  q : TrsA
def LabA.cells (x : LabA) : Array Value := #[.int .i64 x.k, .float .f32 x.r, .float .f32 x.b1, .float .f32 x.b2, .float .f32 x.ep, .int .i64 x.er, .int .i64 x.ec, .slice x.ea x.ex.length x.eca, .int .i64 x.er2, .int .i64 x.ec2, .slice x.eb x.ey.length x.ecb, .slice x.q.g x.q.ls.length x.q.c, .slice x.q.h x.q.ss.length x.q.d, .int .i64 x.q.st, .int .i64 x.q.sd, .float .f32 x.q.sc]
def LabAt (w : World) (x : LabA) : Prop := (IsFloats .f32 w x.ea x.ex.length x.eca x.ex ∧ IsFloats .f32 w x.eb x.ey.length x.ecb x.ey) ∧ TrsAt w x.q ∧ (Lit.int .i64 x.k).wf = true
theorem LabAt.kept {w w' : World} {x : LabA} (h : LabAt w x) (hb : Below w.heap.size w w') : LabAt w' x := ⟨⟨h.1.1.kept hb, h.1.2.kept hb⟩, h.2.1.kept hb, h.2.2⟩
def labSum (x : LabA) : Nat := (x.ex.length + x.ey.length) + trsSum x.q
/-- the same, cell for cell and list for list -/
def LabEq (y x : LabA) : Prop := (y.k = x.k ∧ y.r = x.r ∧ y.b1 = x.b1 ∧ y.b2 = x.b2 ∧ y.ep = x.ep) ∧ (y.er = x.er ∧ y.ec = x.ec ∧ y.er2 = x.er2 ∧ y.ec2 = x.ec2 ∧ y.ex = x.ex ∧ y.ey = x.ey) ∧ TrsEq y.q x.q
def setN (w : World) (g : Nat) : Nat → List Value → World
  | _, [] => w
  | i, v :: vs => setN (w.setCell ⟨g, i, none⟩ v) g (i + 1) vs
def setA (cs : Array Value) : Nat → List Value → Array Value
  | _, [] => cs
  | i, v :: vs => setA (cs.setIfInBounds i v) (i + 1) vs
theorem blk_set1 {w : World} {g i : Nat} {t : TypeId} {cs : Array Value} {v : Value} (h : Blk w g t cs) : Blk (w.setCell ⟨g, i, none⟩ v) g t (cs.setIfInBounds i v) := by
  have h' : w.heap[g]? = _ := h
  show (w.setCell ⟨g, i, none⟩ v).heap[g]? = _
  simp [World.setCell, Array.getElem?_modify, h']
theorem grown1 (w : World) (g i : Nat) (v : Value) : w.grownBy (w.setCell ⟨g, i, none⟩ v) (some g) := by
  refine ⟨rfl, rfl, rfl, by simp [World.setCell], fun k hk hne => ?_⟩
  have hne' : ¬ g = k := fun e => hne (by rw [e])
  simp [World.setCell, Array.getElem?_modify, hne']
theorem setN_blk {g : Nat} {t : TypeId} : ∀ (vs : List Value) (i : Nat) (w : World) (cs : Array Value), Blk w g t cs → Blk (setN w g i vs) g t (setA cs i vs)
  | [], _, _, _, h => h
  | _ :: vs, i, _, _, h => setN_blk vs (i + 1) _ _ (blk_set1 h)
theorem setN_grown {g : Nat} : ∀ (vs : List Value) (i : Nat) (w : World), w.grownBy (setN w g i vs) (some g)
  | [], _, w => World.grownBy.refl w _
  | v :: vs, i, w => grown_set (grown1 w g i v) (setN_grown vs (i + 1) _)
theorem tb16 {w : World} {g : Nat} {t : TypeId} {v0 v1 v2 v3 v4 v5 v6 v7 v8 v9 v10 v11 v12 v13 v14 v15 : Value} (h : Blk w g t #[v0, v1, v2, v3, v4, v5, v6, v7, v8, v9, v10, v11, v12, v13, v14, v15]) : w.cell? ⟨g, 0, none⟩ = some v0 ∧ w.cell? ⟨g, 1, none⟩ = some v1 ∧ w.cell? ⟨g, 2, none⟩ = some v2 ∧ w.cell? ⟨g, 3, none⟩ = some v3 ∧ w.cell? ⟨g, 4, none⟩ = some v4 ∧ w.cell? ⟨g, 5, none⟩ = some v5 ∧ w.cell? ⟨g, 6, none⟩ = some v6 ∧ w.cell? ⟨g, 7, none⟩ = some v7 ∧ w.cell? ⟨g, 8, none⟩ = some v8 ∧ w.cell? ⟨g, 9, none⟩ = some v9 ∧ w.cell? ⟨g, 10, none⟩ = some v10 ∧ w.cell? ⟨g, 11, none⟩ = some v11 ∧ w.cell? ⟨g, 12, none⟩ = some v12 ∧ w.cell? ⟨g, 13, none⟩ = some v13 ∧ w.cell? ⟨g, 14, none⟩ = some v14 ∧ w.cell? ⟨g, 15, none⟩ = some v15 ∧ g < w.heap.size := ⟨h.cell 0, h.cell 1, h.cell 2, h.cell 3, h.cell 4, h.cell 5, h.cell 6, h.cell 7, h.cell 8, h.cell 9, h.cell 10, h.cell 11, h.cell 12, h.cell 13, h.cell 14, h.cell 15, h.lt⟩
theorem tbf16 {w : World} {g : Nat} {t : TypeId} {cs : Array Value} (h : Blk w g t cs) : w.frozen? ⟨g, 0, none⟩ = false ∧ w.frozen? ⟨g, 1, none⟩ = false ∧ w.frozen? ⟨g, 2, none⟩ = false ∧ w.frozen? ⟨g, 3, none⟩ = false ∧ w.frozen? ⟨g, 4, none⟩ = false ∧ w.frozen? ⟨g, 5, none⟩ = false ∧ w.frozen? ⟨g, 6, none⟩ = false ∧ w.frozen? ⟨g, 7, none⟩ = false ∧ w.frozen? ⟨g, 8, none⟩ = false ∧ w.frozen? ⟨g, 9, none⟩ = false ∧ w.frozen? ⟨g, 10, none⟩ = false ∧ w.frozen? ⟨g, 11, none⟩ = false ∧ w.frozen? ⟨g, 12, none⟩ = false ∧ w.frozen? ⟨g, 13, none⟩ = false ∧ w.frozen? ⟨g, 14, none⟩ = false ∧ w.frozen? ⟨g, 15, none⟩ = false := ⟨h.frozen 0, h.frozen 1, h.frozen 2, h.frozen 3, h.frozen 4, h.frozen 5, h.frozen 6, h.frozen 7, h.frozen 8, h.frozen 9, h.frozen 10, h.frozen 11, h.frozen 12, h.frozen 13, h.frozen 14, h.frozen 15⟩
theorem lab_wf {H : Type} {enc : TypeId × Value → H} {W : World} {base fuel : Nat} {sp : Nat → Bool} {held : Bool} {cs : List Value} {x : DataW H × List MemPlace} {k : Int} (h : DataW.trod enc Try.prog W base sp held fuel 37 cs = some x) (hk : cs[0]? = some (.int .i64 k)) : (Lit.int .i64 k).wf = true := by
  obtain ⟨xs, m, rfl, _, hl, hxl, hall⟩ := DataW.trod_struct Try.underlying37 h
  have h0 := hall 0 _ rfl
  obtain ⟨b, hb⟩ : ∃ b, xs[0]? = some b := ⟨xs[0]'(by rw [hxl]; decide), List.getElem?_eq_getElem (by rw [hxl]; decide)⟩
  rw [hb] at h0
  obtain ⟨ys, m2, rfl, _, hl2, hyl, hall2⟩ := DataW.trod_struct Try.underlying24 h0
  have h1 := hall2 0 _ rfl
  obtain ⟨b2, hb2⟩ : ∃ b, ys[0]? = some b := ⟨ys[0]'(by rw [hyl]; decide), List.getElem?_eq_getElem (by rw [hyl]; decide)⟩
  rw [hb2] at h1
  obtain ⟨z, hc, _, hw⟩ := DataW.trod_int Try.underlying2 h1
  have e : cs[0]? = some (.int .i64 z) := by
    have := congrArg (·[0]?) hc
    have c1 : Try.prog.cellsOf 24 = 5 := by kernel_rfl
    have c2 : Try.prog.cellsOf 2 = 1 := by kernel_rfl
    simpa [c1, c2, List.getElem?_take, List.getElem?_drop] using this
  rw [hk] at e
  cases e
  exact hw
set_option maxRecDepth 100000 in
theorem open_Lab {H : Type} {enc : TypeId × Value → H} {W : World} {base b0 : Nat} {re : Reach} {held : Bool} {v : Value} {d : DataW H} {p : List MemPlace}
    (hv : Value.okWide Try.prog W re b0 37 v) (h : DataW.Trod enc Try.prog W base (fun _ => true) held 37 v d p) :
    ∃ x : LabA, v = .agg x.cells ∧ LabAt W x := by
  obtain ⟨cs, rfl, hsz⟩ := okWide_struct Try.underlying37 hv
  obtain ⟨fuel, hf⟩ := h
  have hf2 := hf
  obtain ⟨l, e, ha, ht⟩ := opened 8 _ _ _ _ _ (show tyOf Try.prog 8 37 = some [.int, .f32, .f32, .f32, .f32, .int, .int, .sl 22 1 [.f32], .int, .int, .sl 22 1 [.f32], .sl 246 5 [.int, .int, .int, .sl 22 1 [.f32], .sl 22 1 [.f32]], .sl 25 1 [.sl 22 1 [.f32]], .int, .int, .f32] by kernel_rfl) hf
  simp only [typedL] at ht
  obtain ⟨k0, l0, rfl, t0, k1, l1, rfl, t1, k2, l2, rfl, t2, k3, l3, rfl, t3, k4, l4, rfl, t4, k5, l5, rfl, t5, k6, l6, rfl, t6, k7, l7, rfl, t7, k8, l8, rfl, t8, k9, l9, rfl, t9, k10, l10, rfl, t10, k11, l11, rfl, t11, k12, l12, rfl, t12, k13, l13, rfl, t13, k14, l14, rfl, t14, k15, l15, rfl, t15, rfl⟩ := ht
  simp only [Cl.typed.eq_1, Cl.typed.eq_2] at t0 t1 t2 t3 t4 t5 t6 t8 t9 t13 t14 t15
  obtain ⟨k, rfl⟩ := t0
  obtain ⟨r, rfl⟩ := t1
  obtain ⟨b1, rfl⟩ := t2
  obtain ⟨b2, rfl⟩ := t3
  obtain ⟨ep, rfl⟩ := t4
  obtain ⟨er, rfl⟩ := t5
  obtain ⟨ec, rfl⟩ := t6
  obtain ⟨er2, rfl⟩ := t8
  obtain ⟨ec2, rfl⟩ := t9
  obtain ⟨st, rfl⟩ := t13
  obtain ⟨sd, rfl⟩ := t14
  obtain ⟨sc, rfl⟩ := t15
  obtain ⟨ea, eca, ex, rfl⟩ := typed_f32s t7
  obtain ⟨eb, ecb, ey, rfl⟩ := typed_f32s t10
  obtain ⟨g, c, ls, rfl⟩ := typed_lays t11
  obtain ⟨h', d', ss, rfl⟩ := typed_ss t12
  simp only [AtL, flC_at, and_true] at ha
  obtain ⟨a0, a1, a2, a3, a4, a5, a6, a7, a8, a9, a10, a11, a12, a13, a14, a15⟩ := ha
  have ecs : cs = (⟨k, r, b1, b2, ep, er, ec, er2, ec2, ex, ey, ea, eb, eca, ecb, ⟨g, c, ls, h', d', ss, st, sd, sc⟩⟩ : LabA).cells := by
    simp only [Value.cells] at e
    exact (Array.toList_inj.1 (by rw [← e]; rfl)).symm
  refine ⟨⟨k, r, b1, b2, ep, er, ec, er2, ec2, ex, ey, ea, eb, eca, ecb, ⟨g, c, ls, h', d', ss, st, sd, sc⟩⟩, by rw [ecs], ⟨a7, a10⟩, ⟨laysAt_cl.1 a11, ssAt_cl a12, ?_⟩, ?_⟩
  · simpa [Cl.At] using a15
  · exact lab_wf hf2 (by simp only [Value.cells]; rw [ecs]; rfl)
set_option maxRecDepth 100000 in
set_option maxHeartbeats 1000000 in
theorem c_szLab (x : LabA) (l rr : Nat) (w : World) (hx : LabAt w x) (hl : l ≤ 1048576) (hs : labSum x ≤ l) (hr : l - labSum x = rr) :
    Calls Try.prog 12 #[.agg x.cells, .int .i64 l] w fun e w' => e = .returned (.int .i64 (rr : Int)) ∧ Below w.heap.size w w' := by
  obtain ⟨k, r, b1, b2, ep, er, ec, er2, ec2, ex, ey, ea, eb, eca, ecb, ⟨g, c, ls, h, d, ss, st, sd, sc⟩⟩ := x
  simp only [LabAt, labSum] at hx hs hr
  obtain ⟨⟨x1, x2⟩, x3, _⟩ := hx
  obtain ⟨T, hT⟩ : ∃ T : TrsA, (⟨g, c, ls, h, d, ss, st, sd, sc⟩ : TrsA) = T := ⟨_, rfl⟩
  rw [hT] at x3 hs hr
  obtain ⟨TS, hTS⟩ : ∃ TS, trsSum T = TS := ⟨_, rfl⟩
  have HTS := Lib.hid hTS
  rw [hTS] at hs hr
  have HT := Lib.hid hT
  have X3 := Lib.hid x3
  unfold LabA.cells
  simp only
  have m1 : ex.length ≤ 9223372036854775807 := by have h1 := x1.1; have h2 := x1.2.1; unfold maxLen at h2; omega
  have m2 : ey.length ≤ 9223372036854775807 := by have h1 := x2.1; have h2 := x2.2.1; unfold maxLen at h2; omega
  obtain ⟨n1, e1⟩ : ∃ n, ex.length = n := ⟨_, rfl⟩
  obtain ⟨n2, e2⟩ : ∃ n, ey.length = n := ⟨_, rfl⟩
  rw [e1] at hs hr m1
  rw [e2] at hs hr m2
  rw [e1, e2]
  have hT0 : Value.agg #[.slice g ls.length c, .slice h ss.length d, .int .i64 st, .int .i64 sd, .float .f32 sc] = .agg T.cells := by rw [← hT]; rfl
  have HC0 := Lib.hid hT0
  clear x1 x2 x3 hT hTS e1 e2 hT0
  obtain ⟨u, hu⟩ : ∃ u, l - (n1 + n2) = u := ⟨_, rfl⟩
  have hu0 : (0 : Int) ≤ (u : Int) := by omega
  have hr0 : (0 : Int) ≤ (rr : Int) := by omega
  have D1 := Lib.hid (fun W => c_szExa er ec er2 ec2 ea eb n1 n2 eca ecb l u W hl (by omega) hu)
  have D2 := Lib.hid (fun W (hb : Below w.heap.size w W) => c_szTrs T u rr W (X3.out.kept hb) (by omega) (by rw [HTS.out]; omega) (by rw [HTS.out]; omega))
  have K := Lib.hid (Blk.new w 37 #[.int .i64 k, .float .f32 r, .float .f32 b1, .float .f32 b2, .float .f32 ep, .int .i64 er, .int .i64 ec, .slice ea n1 eca, .int .i64 er2, .int .i64 ec2, .slice eb n2 ecb, .slice g ls.length c, .slice h ss.length d, .int .i64 st, .int .i64 sd, .float .f32 sc])
  have B := Lib.hid ((Below.refl w.heap.size w).alloc (Nat.le_refl _) (.cells #[.int .i64 k, .float .f32 r, .float .f32 b1, .float .f32 b2, .float .f32 ep, .int .i64 er, .int .i64 ec, .slice ea n1 eca, .int .i64 er2, .int .i64 ec2, .slice eb n2 ecb, .slice g ls.length c, .slice h ss.length d, .int .i64 st, .int .i64 sd, .float .f32 sc] 37))
  clear hs hr hu hl
  go_enter Try.func12, Try.ntmps12
  go_wp2_with fail
  generalize w.alloc (.cells #[.int .i64 k, .float .f32 r, .float .f32 b1, .float .f32 b2, .float .f32 ep, .int .i64 er, .int .i64 ec, .slice ea n1 eca, .int .i64 er2, .int .i64 ec2, .slice eb n2 ecb, .slice g ls.length c, .slice h ss.length d, .int .i64 st, .int .i64 sd, .float .f32 sc] 37) = w1 at K B ⊢
  obtain ⟨p0, p1, p2, p3, p4, p5, p6, p7, p8, p9, p10, p11, p12, p13, p14, p15, pl⟩ := tb16 K.out
  try go_wp2_with fail
  refine (D1.out _).mono ?_
  rintro e w2 ⟨rfl, hb⟩
  have K2 := Lib.hid (K.out.below hb)
  have B2 := Lib.hid (Below.next B.out hb)
  clear hb p0 p1 p2 p3 p4 p5 p6 p7 p8 p9 p10 p11 p12 p13 p14 p15 pl
  obtain ⟨p0, p1, p2, p3, p4, p5, p6, p7, p8, p9, p10, p11, p12, p13, p14, p15, pl⟩ := tb16 K2.out
  go_wp2_with fail
  rw [HC0.out]
  refine (D2.out _ B2.out).mono ?_
  rintro e w3 ⟨rfl, hb⟩
  have B3 := Lib.hid (Below.next B2.out hb)
  clear hb p0 p1 p2 p3 p4 p5 p6 p7 p8 p9 p10 p11 p12 p13 p14 p15 pl
  go_wp2_with fail
  go_ret
  exact ⟨rfl, B3.out⟩
set_option maxRecDepth 100000 in
set_option maxHeartbeats 1000000 in
theorem c_szLab_no (x : LabA) (l : Nat) (w : World) (hx : LabAt w x) (hl : l ≤ 1048576) (hs : l < labSum x) :
    Calls Try.prog 12 #[.agg x.cells, .int .i64 l] w fun e w' => e = .returned (.int .i64 (-1)) ∧ Below w.heap.size w w' := by
  obtain ⟨k, r, b1, b2, ep, er, ec, er2, ec2, ex, ey, ea, eb, eca, ecb, ⟨g, c, ls, h, d, ss, st, sd, sc⟩⟩ := x
  simp only [LabAt, labSum] at hx hs
  obtain ⟨⟨x1, x2⟩, x3, _⟩ := hx
  obtain ⟨T, hT⟩ : ∃ T : TrsA, (⟨g, c, ls, h, d, ss, st, sd, sc⟩ : TrsA) = T := ⟨_, rfl⟩
  rw [hT] at x3 hs
  obtain ⟨TS, hTS⟩ : ∃ TS, trsSum T = TS := ⟨_, rfl⟩
  have HTS := Lib.hid hTS
  rw [hTS] at hs
  have HT := Lib.hid hT
  have X3 := Lib.hid x3
  unfold LabA.cells
  simp only
  have m1 : ex.length ≤ 9223372036854775807 := by have h1 := x1.1; have h2 := x1.2.1; unfold maxLen at h2; omega
  have m2 : ey.length ≤ 9223372036854775807 := by have h1 := x2.1; have h2 := x2.2.1; unfold maxLen at h2; omega
  obtain ⟨n1, e1⟩ : ∃ n, ex.length = n := ⟨_, rfl⟩
  obtain ⟨n2, e2⟩ : ∃ n, ey.length = n := ⟨_, rfl⟩
  rw [e1] at hs m1
  rw [e2] at hs m2
  rw [e1, e2]
  have hT0 : Value.agg #[.slice g ls.length c, .slice h ss.length d, .int .i64 st, .int .i64 sd, .float .f32 sc] = .agg T.cells := by rw [← hT]; rfl
  have HC0 := Lib.hid hT0
  clear x1 x2 x3 hT hTS e1 e2 hT0
  have D2 := Lib.hid (fun u W (hb : Below w.heap.size w W) (h1 : u ≤ 1048576) (h2 : u < TS) => c_szTrs_no T u W (X3.out.kept hb) h1 (by rw [HTS.out]; exact h2))
  have K := Lib.hid (Blk.new w 37 #[.int .i64 k, .float .f32 r, .float .f32 b1, .float .f32 b2, .float .f32 ep, .int .i64 er, .int .i64 ec, .slice ea n1 eca, .int .i64 er2, .int .i64 ec2, .slice eb n2 ecb, .slice g ls.length c, .slice h ss.length d, .int .i64 st, .int .i64 sd, .float .f32 sc])
  have B := Lib.hid ((Below.refl w.heap.size w).alloc (Nat.le_refl _) (.cells #[.int .i64 k, .float .f32 r, .float .f32 b1, .float .f32 b2, .float .f32 ep, .int .i64 er, .int .i64 ec, .slice ea n1 eca, .int .i64 er2, .int .i64 ec2, .slice eb n2 ecb, .slice g ls.length c, .slice h ss.length d, .int .i64 st, .int .i64 sd, .float .f32 sc] 37))
  by_cases hq : n1 + n2 ≤ l
  · obtain ⟨u, hu⟩ : ∃ u, l - (n1 + n2) = u := ⟨_, rfl⟩
    have hu0 : (0 : Int) ≤ (u : Int) := by omega
    have D1 := Lib.hid (fun W => c_szExa er ec er2 ec2 ea eb n1 n2 eca ecb l u W hl hq hu)
    have U1 := Lib.hid (show u ≤ 1048576 by omega)
    have U2 := Lib.hid (show u < TS by omega)
    clear hs hu hl hq m1 m2
    go_enter Try.func12, Try.ntmps12
    go_wp2_with fail
    generalize w.alloc (.cells #[.int .i64 k, .float .f32 r, .float .f32 b1, .float .f32 b2, .float .f32 ep, .int .i64 er, .int .i64 ec, .slice ea n1 eca, .int .i64 er2, .int .i64 ec2, .slice eb n2 ecb, .slice g ls.length c, .slice h ss.length d, .int .i64 st, .int .i64 sd, .float .f32 sc] 37) = w1 at K B ⊢
    obtain ⟨p0, p1, p2, p3, p4, p5, p6, p7, p8, p9, p10, p11, p12, p13, p14, p15, pl⟩ := tb16 K.out
    try go_wp2_with fail
    refine (D1.out _).mono ?_
    rintro e w2 ⟨rfl, hb⟩
    have K2 := Lib.hid (K.out.below hb)
    have B2 := Lib.hid (Below.next B.out hb)
    clear hb p0 p1 p2 p3 p4 p5 p6 p7 p8 p9 p10 p11 p12 p13 p14 p15 pl
    obtain ⟨p0, p1, p2, p3, p4, p5, p6, p7, p8, p9, p10, p11, p12, p13, p14, p15, pl⟩ := tb16 K2.out
    go_wp2_with fail
    rw [HC0.out]
    refine (D2.out _ _ B2.out U1.out U2.out).mono ?_
    rintro e w3 ⟨rfl, hb⟩
    have B3 := Lib.hid (Below.next B2.out hb)
    clear hb p0 p1 p2 p3 p4 p5 p6 p7 p8 p9 p10 p11 p12 p13 p14 p15 pl
    go_wp2_with fail
    go_ret
    exact ⟨rfl, B3.out⟩
  · have D1 := Lib.hid (fun W => c_szExa_no er ec er2 ec2 ea eb n1 n2 eca ecb l W hl (by omega) m1 m2)
    clear hs hl hq m1 m2
    go_enter Try.func12, Try.ntmps12
    go_wp2_with fail
    generalize w.alloc (.cells #[.int .i64 k, .float .f32 r, .float .f32 b1, .float .f32 b2, .float .f32 ep, .int .i64 er, .int .i64 ec, .slice ea n1 eca, .int .i64 er2, .int .i64 ec2, .slice eb n2 ecb, .slice g ls.length c, .slice h ss.length d, .int .i64 st, .int .i64 sd, .float .f32 sc] 37) = w1 at K B ⊢
    obtain ⟨p0, p1, p2, p3, p4, p5, p6, p7, p8, p9, p10, p11, p12, p13, p14, p15, pl⟩ := tb16 K.out
    try go_wp2_with fail
    refine (D1.out _).mono ?_
    rintro e w2 ⟨rfl, hb⟩
    have B2 := Lib.hid (Below.next B.out hb)
    clear hb p0 p1 p2 p3 p4 p5 p6 p7 p8 p9 p10 p11 p12 p13 p14 p15 pl
    go_wp2_with fail
    go_ret
    exact ⟨rfl, B2.out⟩
set_option maxRecDepth 100000 in
set_option maxHeartbeats 2000000 in
theorem c_eqOpt (k : Int) (r b1 b2 ep : Nat) (w : World) : Calls Try.prog 66 #[optV k r b1 b2 ep, optV k r b1 b2 ep] w fun e w' => e = .returned (.bool true) ∧ Below w.heap.size w w' := by
  unfold optV
  have hne : (k != k) = false := by simp
  go_enter Try.func66, Try.ntmps66
  go_wp2_with (go_at_call 134; refine (c_sameFloat _ _ (cwide_same _ _ rfl) _).mono ?_; rintro e w' ⟨rfl, m, rfl⟩)
  go_ret
  refine ⟨rfl, ?_⟩
  repeat with_reducible refine below_drewN ?_ _
  exact ((Below.refl w.heap.size w).alloc (Nat.le_refl _) _).alloc (by simp) _
set_option maxRecDepth 100000 in
set_option maxHeartbeats 4000000 in
theorem c_eqLab (x y : LabA) (w : World) (hx : LabAt w x) (hy : LabAt w y) (he : LabEq y x) :
    Calls Try.prog 16 #[.agg x.cells, .agg y.cells] w fun e w' => e = .returned (.bool true) ∧ Below w.heap.size w w' := by
  obtain ⟨k, r, b1, b2, ep, er, ec, er2, ec2, ex, ey, ea, eb, eca, ecb, ⟨g, c, ls, h, d, ss, st, sd, sc⟩⟩ := x
  obtain ⟨k', r', b1', b2', ep', er', ec', er2', ec2', ex', ey', ea', eb', eca', ecb', ⟨g', c', ls', h', d', ss', st', sd', sc'⟩⟩ := y
  obtain ⟨⟨q1, q2, q3, q4, q5⟩, ⟨q6, q7, q8, q9, q10, q11⟩, hte⟩ := he
  simp only at q1 q2 q3 q4 q5 q6 q7 q8 q9 q10 q11 hte
  subst q1 q2 q3 q4 q5 q6 q7 q8 q9 q10 q11
  simp only [LabAt] at hx hy
  obtain ⟨⟨x1, x2⟩, x3, _⟩ := hx
  obtain ⟨⟨y1, y2⟩, y3, _⟩ := hy
  have HX0 := Lib.hid (show Value.agg #[.slice g ls.length c, .slice h ss.length d, .int .i64 st, .int .i64 sd, .float .f32 sc] = .agg (⟨g, c, ls, h, d, ss, st, sd, sc⟩ : TrsA).cells from rfl)
  have HY0 := Lib.hid (show Value.agg #[.slice g' ls'.length c', .slice h' ss'.length d', .int .i64 st', .int .i64 sd', .float .f32 sc'] = .agg (⟨g', c', ls', h', d', ss', st', sd', sc'⟩ : TrsA).cells from rfl)
  have HO0 := Lib.hid (show Value.agg #[.int .i64 k', .float .f32 r', .float .f32 b1', .float .f32 b2', .float .f32 ep'] = optV k' r' b1' b2' ep' from rfl)
  have b0 := ((Below.refl w.heap.size w).alloc (Nat.le_refl _) (.cells #[.int .i64 k', .float .f32 r', .float .f32 b1', .float .f32 b2', .float .f32 ep', .int .i64 er', .int .i64 ec', .slice ea ex'.length eca, .int .i64 er2', .int .i64 ec2', .slice eb ey'.length ecb, .slice g ls.length c, .slice h ss.length d, .int .i64 st, .int .i64 sd, .float .f32 sc] 50)).alloc (by simp) (.cells #[.int .i64 k', .float .f32 r', .float .f32 b1', .float .f32 b2', .float .f32 ep', .int .i64 er', .int .i64 ec', .slice ea' ex'.length eca', .int .i64 er2', .int .i64 ec2', .slice eb' ey'.length ecb', .slice g' ls'.length c', .slice h' ss'.length d', .int .i64 st', .int .i64 sd', .float .f32 sc'] 50)
  have k1 := (Blk.new w 50 #[.int .i64 k', .float .f32 r', .float .f32 b1', .float .f32 b2', .float .f32 ep', .int .i64 er', .int .i64 ec', .slice ea ex'.length eca, .int .i64 er2', .int .i64 ec2', .slice eb ey'.length ecb, .slice g ls.length c, .slice h ss.length d, .int .i64 st, .int .i64 sd, .float .f32 sc]).below ((Below.refl _ _).alloc (Nat.le_refl _) (.cells #[.int .i64 k', .float .f32 r', .float .f32 b1', .float .f32 b2', .float .f32 ep', .int .i64 er', .int .i64 ec', .slice ea' ex'.length eca', .int .i64 er2', .int .i64 ec2', .slice eb' ey'.length ecb', .slice g' ls'.length c', .slice h' ss'.length d', .int .i64 st', .int .i64 sd', .float .f32 sc'] 50))
  have k2 := Blk.new (w.alloc (.cells #[.int .i64 k', .float .f32 r', .float .f32 b1', .float .f32 b2', .float .f32 ep', .int .i64 er', .int .i64 ec', .slice ea ex'.length eca, .int .i64 er2', .int .i64 ec2', .slice eb ey'.length ecb, .slice g ls.length c, .slice h ss.length d, .int .i64 st, .int .i64 sd, .float .f32 sc] 50)) 50 #[.int .i64 k', .float .f32 r', .float .f32 b1', .float .f32 b2', .float .f32 ep', .int .i64 er', .int .i64 ec', .slice ea' ex'.length eca', .int .i64 er2', .int .i64 ec2', .slice eb' ey'.length ecb', .slice g' ls'.length c', .slice h' ss'.length d', .int .i64 st', .int .i64 sd', .float .f32 sc']
  simp only [World.size_alloc] at k2
  have B0 := Lib.hid b0
  have K1 := Lib.hid k1
  have K2 := Lib.hid k2
  have X1 := Lib.hid x1
  have X2 := Lib.hid x2
  have X3 := Lib.hid x3
  have Y1 := Lib.hid y1
  have Y2 := Lib.hid y2
  have Y3 := Lib.hid y3
  have HTE := Lib.hid hte
  unfold LabA.cells
  simp only
  clear x1 x2 x3 y1 y2 y3 b0 k1 k2 hte
  go_enter Try.func16, Try.ntmps16
  go_upto_region 1 with fail
  generalize (w.alloc (.cells #[.int .i64 k', .float .f32 r', .float .f32 b1', .float .f32 b2', .float .f32 ep', .int .i64 er', .int .i64 ec', .slice ea ex'.length eca, .int .i64 er2', .int .i64 ec2', .slice eb ey'.length ecb, .slice g ls.length c, .slice h ss.length d, .int .i64 st, .int .i64 sd, .float .f32 sc] 50)).alloc (.cells #[.int .i64 k', .float .f32 r', .float .f32 b1', .float .f32 b2', .float .f32 ep', .int .i64 er', .int .i64 ec', .slice ea' ex'.length eca', .int .i64 er2', .int .i64 ec2', .slice eb' ey'.length ecb', .slice g' ls'.length c', .slice h' ss'.length d', .int .i64 st', .int .i64 sd', .float .f32 sc'] 50) = w1 at B0 K1 K2 ⊢
  obtain ⟨p0, p1, p2, p3, p4, p5, p6, p7, p8, p9, p10, p11, p12, p13, p14, p15, pl⟩ := tb16 K1.out
  obtain ⟨q0, q1, q2, q3, q4, q5, q6, q7, q8, q9, q10, q11, q12, q13, q14, q15, ql⟩ := tb16 K2.out
  go_wp2_with fail
  rw [HO0.out]
  refine (c_eqOpt k' r' b1' b2' ep' _).mono ?_
  rintro e w2 ⟨rfl, hb⟩
  have K1a := Lib.hid (K1.out.below hb)
  have K2a := Lib.hid (K2.out.below hb)
  have Ba := Lib.hid (Below.next B0.out hb)
  clear hb p0 p1 p2 p3 p4 p5 p6 p7 p8 p9 p10 p11 p12 p13 p14 p15 pl q0 q1 q2 q3 q4 q5 q6 q7 q8 q9 q10 q11 q12 q13 q14 q15 ql
  obtain ⟨p0, p1, p2, p3, p4, p5, p6, p7, p8, p9, p10, p11, p12, p13, p14, p15, pl⟩ := tb16 K1a.out
  obtain ⟨q0, q1, q2, q3, q4, q5, q6, q7, q8, q9, q10, q11, q12, q13, q14, q15, ql⟩ := tb16 K2a.out
  go_wp2_with fail
  refine (c_eqExa er' ec' er2' ec2' ea eb ea' eb' eca ecb eca' ecb' ex' ey' ex' ey' _ (X1.out.kept Ba.out) (X2.out.kept Ba.out) (Y1.out.kept Ba.out) (Y2.out.kept Ba.out) rfl rfl).mono ?_
  rintro e w3 ⟨rfl, hb⟩
  have K1b := Lib.hid (K1a.out.below hb)
  have K2b := Lib.hid (K2a.out.below hb)
  have Bb := Lib.hid (Below.next Ba.out hb)
  clear hb p0 p1 p2 p3 p4 p5 p6 p7 p8 p9 p10 p11 p12 p13 p14 p15 pl q0 q1 q2 q3 q4 q5 q6 q7 q8 q9 q10 q11 q12 q13 q14 q15 ql
  obtain ⟨p0, p1, p2, p3, p4, p5, p6, p7, p8, p9, p10, p11, p12, p13, p14, p15, pl⟩ := tb16 K1b.out
  obtain ⟨q0, q1, q2, q3, q4, q5, q6, q7, q8, q9, q10, q11, q12, q13, q14, q15, ql⟩ := tb16 K2b.out
  go_wp2_with fail
  rw [HX0.out, HY0.out]
  refine (c_eqTrs' _ _ _ (X3.out.kept Bb.out) (Y3.out.kept Bb.out) HTE.out.symm).mono ?_
  rintro e w4 ⟨rfl, hb⟩
  have Bc := Lib.hid (Below.next Bb.out hb)
  clear hb p0 p1 p2 p3 p4 p5 p6 p7 p8 p9 p10 p11 p12 p13 p14 p15 pl q0 q1 q2 q3 q4 q5 q6 q7 q8 q9 q10 q11 q12 q13 q14 q15 ql
  go_wp2_with fail
  go_ret
  exact ⟨rfl, Bc.out⟩
end Go.Proofs.Ytaipegkkpkagnaa
