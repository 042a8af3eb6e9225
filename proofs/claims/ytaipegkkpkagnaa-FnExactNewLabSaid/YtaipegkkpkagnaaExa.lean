/-
  Words for examples (two tensors in one struct): sizes, copies, comparisons; valid examples. Conditions: the cells can be read.
-/
import Derived.Test.YtaipegkkpkagnaaLike
import Derived.Test.YtaipegkkpkagnaaTyd
import Derived.Test.YtaipegkkpkagnaaCl
namespace Go.Proofs.Ytaipegkkpkagnaa
open Go.RowKit Go.Deep Go.WideShapes Go.ChangeShapes
set_option linter.unusedVariables false

theorem tb6 {w : World} {g : Nat} {t : TypeId} {v0 v1 v2 v3 v4 v5 : Value} (h : Blk w g t #[v0, v1, v2, v3, v4, v5]) : w.cell? ⟨g, 0, none⟩ = some v0 ∧ w.cell? ⟨g, 1, none⟩ = some v1 ∧ w.cell? ⟨g, 2, none⟩ = some v2 ∧ w.cell? ⟨g, 3, none⟩ = some v3 ∧ w.cell? ⟨g, 4, none⟩ = some v4 ∧ w.cell? ⟨g, 5, none⟩ = some v5 ∧ g < w.heap.size := ⟨h.cell 0, h.cell 1, h.cell 2, h.cell 3, h.cell 4, h.cell 5, h.lt⟩
theorem tbf6 {w : World} {g : Nat} {t : TypeId} {cs : Array Value} (h : Blk w g t cs) : w.frozen? ⟨g, 0, none⟩ = false ∧ w.frozen? ⟨g, 1, none⟩ = false ∧ w.frozen? ⟨g, 2, none⟩ = false ∧ w.frozen? ⟨g, 3, none⟩ = false ∧ w.frozen? ⟨g, 4, none⟩ = false ∧ w.frozen? ⟨g, 5, none⟩ = false := ⟨h.frozen 0, h.frozen 1, h.frozen 2, h.frozen 3, h.frozen 4, h.frozen 5⟩
theorem store6a {w : World} {g : Nat} {t : TypeId} {x0 x1 x2 x3 x4 x5 y0 y1 y2 : Value} (h : Blk w g t #[x0, x1, x2, x3, x4, x5]) :
    Blk (((w.setCell ⟨g, 0, none⟩ y0).setCell ⟨g, 1, none⟩ y1).setCell ⟨g, 2, none⟩ y2) g t #[y0, y1, y2, x3, x4, x5] ∧ w.grownBy (((w.setCell ⟨g, 0, none⟩ y0).setCell ⟨g, 1, none⟩ y1).setCell ⟨g, 2, none⟩ y2) (some g) := by
  constructor
  · unfold Blk at h ⊢
    simp [World.setCell, Array.getElem?_modify, h]
  · have st : ∀ (w : World) (i : Nat) (u : Value), w.grownBy (w.setCell ⟨g, i, none⟩ u) (some g) := fun w i u =>
      ⟨rfl, rfl, rfl, by simp, fun k _ hk => Below.heap_setCell w ⟨g, i, none⟩ u k (fun e => hk (by simp [e]))⟩
    exact grown_set (grown_set (st w 0 y0) (st _ 1 y1)) (st _ 2 y2)
theorem store6b {w : World} {g : Nat} {t : TypeId} {x0 x1 x2 x3 x4 x5 y0 y1 y2 : Value} (h : Blk w g t #[x0, x1, x2, x3, x4, x5]) :
    Blk (((w.setCell ⟨g, 3, none⟩ y0).setCell ⟨g, 4, none⟩ y1).setCell ⟨g, 5, none⟩ y2) g t #[x0, x1, x2, y0, y1, y2] ∧ w.grownBy (((w.setCell ⟨g, 3, none⟩ y0).setCell ⟨g, 4, none⟩ y1).setCell ⟨g, 5, none⟩ y2) (some g) := by
  constructor
  · unfold Blk at h ⊢
    simp [World.setCell, Array.getElem?_modify, h]
  · have st : ∀ (w : World) (i : Nat) (u : Value), w.grownBy (w.setCell ⟨g, i, none⟩ u) (some g) := fun w i u =>
      ⟨rfl, rfl, rfl, by simp, fun k _ hk => Below.heap_setCell w ⟨g, i, none⟩ u k (fun e => hk (by simp [e]))⟩
    exact grown_set (grown_set (st w 3 y0) (st _ 4 y1)) (st _ 5 y2)
theorem store6 {w : World} {g : Nat} {t : TypeId} {x0 x1 x2 x3 x4 x5 y0 y1 y2 y3 y4 y5 : Value} (h : Blk w g t #[x0, x1, x2, x3, x4, x5]) :
    Blk ((((((w.setCell ⟨g, 0, none⟩ y0).setCell ⟨g, 1, none⟩ y1).setCell ⟨g, 2, none⟩ y2).setCell ⟨g, 3, none⟩ y3).setCell ⟨g, 4, none⟩ y4).setCell ⟨g, 5, none⟩ y5) g t #[y0, y1, y2, y3, y4, y5] ∧ w.grownBy ((((((w.setCell ⟨g, 0, none⟩ y0).setCell ⟨g, 1, none⟩ y1).setCell ⟨g, 2, none⟩ y2).setCell ⟨g, 3, none⟩ y3).setCell ⟨g, 4, none⟩ y4).setCell ⟨g, 5, none⟩ y5) (some g) := by
  obtain ⟨k1, g1⟩ := store6a h (y0 := y0) (y1 := y1) (y2 := y2)
  obtain ⟨k2, g2⟩ := store6b k1 (y0 := y3) (y1 := y4) (y2 := y5)
  exact ⟨k2, grown_set g1 g2⟩
/-- examples that came in -/
structure ExaA where
  r : Int
  c : Int
  r' : Int
  c' : Int
  x : List Nat
  y : List Nat
  a : Option Addr
  b : Option Addr
  ca : Nat
  cb : Nat
open Go.ChangeShapes Go.WideShapes Go.Deep in
set_option maxRecDepth 100000 in
theorem open_Exa {H : Type} {enc : TypeId × Value → H} {W : World} {base b0 : Nat} {re : Reach} {held : Bool} {v : Value} {d : DataW H} {p : List MemPlace}
    (hv : Value.okWide Try.prog W re b0 29 v) (h : DataW.Trod enc Try.prog W base (fun _ => true) held 29 v d p) :
    ∃ q : ExaA, v = .agg #[.int .i64 q.r, .int .i64 q.c, .slice q.a q.x.length q.ca, .int .i64 q.r', .int .i64 q.c', .slice q.b q.y.length q.cb] ∧ IsFloats .f32 W q.a q.x.length q.ca q.x ∧ IsFloats .f32 W q.b q.y.length q.cb q.y := by
  obtain ⟨cs, rfl, hsz⟩ := okWide_struct Try.underlying29 hv
  obtain ⟨fuel, hf⟩ := h
  obtain ⟨l, e, ha, ht⟩ := opened 5 _ _ _ _ _ (show tyOf Try.prog 5 29 = some [.int, .int, .sl 22 1 [.f32], .int, .int, .sl 22 1 [.f32]] by kernel_rfl) hf
  simp only [typedL] at ht
  obtain ⟨k0, l0, rfl, t0, k1, l1, rfl, t1, k2, l2, rfl, t2, k3, l3, rfl, t3, k4, l4, rfl, t4, k5, l5, rfl, t5, rfl⟩ := ht
  simp only [Cl.typed.eq_1] at t0 t1 t3 t4
  obtain ⟨r, rfl⟩ := t0
  obtain ⟨c, rfl⟩ := t1
  obtain ⟨r', rfl⟩ := t3
  obtain ⟨c', rfl⟩ := t4
  obtain ⟨a, ca, x, rfl⟩ := typed_f32s t2
  obtain ⟨b, cb, y, rfl⟩ := typed_f32s t5
  simp only [AtL, flC_at, and_true] at ha
  refine ⟨⟨r, c, r', c', x, y, a, b, ca, cb⟩, ?_, ha.2.2.1, ha.2.2.2.2.2⟩
  simp only [Value.cells] at e
  rw [show cs = #[.int .i64 r, .int .i64 c, .slice a x.length ca, .int .i64 r', .int .i64 c', .slice b y.length cb] from (Array.toList_inj.1 (by rw [← e]; rfl)).symm]
theorem c_szExa (r c r' c' : Int) (a b : Option Addr) (n m ca cb l q : Nat) (w : World) (hl : l ≤ 1048576) (hs : n + m ≤ l) (hq : l - (n + m) = q) : Calls Try.prog 58 #[.agg #[.int .i64 r, .int .i64 c, .slice a n ca, .int .i64 r', .int .i64 c', .slice b m cb], .int .i64 l] w fun e w' => e = .returned (.int .i64 (q : Int)) ∧ Below w.heap.size w w' := by
  obtain ⟨u, hu⟩ : ∃ u, l - n = u := ⟨_, rfl⟩
  have HS1 := Lib.hid (show n ≤ l by omega)
  have HS2 := Lib.hid (show m ≤ u by omega)
  have HQ := Lib.hid (show u - m = q by omega)
  have hul : u ≤ 1048576 := by omega
  have hu0 : (0 : Int) ≤ (u : Int) := by omega
  have hq0 : (0 : Int) ≤ (q : Int) := by omega
  have HU := Lib.hid hu
  have K := Lib.hid (Blk.new w 29 #[.int .i64 r, .int .i64 c, .slice a n ca, .int .i64 r', .int .i64 c', .slice b m cb])
  have B := Lib.hid ((Below.refl w.heap.size w).alloc (Nat.le_refl _) (.cells #[.int .i64 r, .int .i64 c, .slice a n ca, .int .i64 r', .int .i64 c', .slice b m cb] 29))
  clear hs hq hu
  go_enter Try.func58, Try.ntmps58
  go_wp2_with fail
  generalize w.alloc (.cells #[.int .i64 r, .int .i64 c, .slice a n ca, .int .i64 r', .int .i64 c', .slice b m cb] 29) = w1 at K B ⊢
  refine (c_szTensor' r c a n ca l u _ HS1.out hl HU.out).mono ?_
  rintro e w2 ⟨rfl, hb⟩
  have K2 := Lib.hid (K.out.below hb)
  have B2 := Lib.hid (Below.next B.out hb)
  clear hb
  obtain ⟨p0, p1, p2, p3, p4, p5, p6⟩ := tb6 K2.out
  go_wp2_with fail
  refine (c_szTensor' r' c' b m cb u q _ HS2.out hul HQ.out).mono ?_
  rintro e w3 ⟨rfl, hb⟩
  have B3 := Lib.hid (Below.next B2.out hb)
  clear hb p0 p1 p2 p3 p4 p5 p6
  go_wp2_with fail
  go_ret
  exact ⟨rfl, B3.out⟩
theorem c_szExa_no (r c r' c' : Int) (a b : Option Addr) (n m ca cb l : Nat) (w : World) (hl : l ≤ 1048576) (hs : l < n + m) (hn : n ≤ 9223372036854775807) (hm : m ≤ 9223372036854775807) : Calls Try.prog 58 #[.agg #[.int .i64 r, .int .i64 c, .slice a n ca, .int .i64 r', .int .i64 c', .slice b m cb], .int .i64 l] w fun e w' => e = .returned (.int .i64 (-1)) ∧ Below w.heap.size w w' := by
  have K := Lib.hid (Blk.new w 29 #[.int .i64 r, .int .i64 c, .slice a n ca, .int .i64 r', .int .i64 c', .slice b m cb])
  have B := Lib.hid ((Below.refl w.heap.size w).alloc (Nat.le_refl _) (.cells #[.int .i64 r, .int .i64 c, .slice a n ca, .int .i64 r', .int .i64 c', .slice b m cb] 29))
  by_cases h1 : l < n
  · have H1 := Lib.hid h1
    clear hs h1
    go_enter Try.func58, Try.ntmps58
    go_wp2_with fail
    generalize w.alloc (.cells #[.int .i64 r, .int .i64 c, .slice a n ca, .int .i64 r', .int .i64 c', .slice b m cb] 29) = w1 at K B ⊢
    refine (c_szTensor_no r c a n ca l _ H1.out hl hn).mono ?_
    rintro e w2 ⟨rfl, hb⟩
    have B2 := Lib.hid (Below.next B.out hb)
    clear hb
    go_wp2_with fail
    go_ret
    exact ⟨rfl, B2.out⟩
  · obtain ⟨u, hu⟩ : ∃ u, l - n = u := ⟨_, rfl⟩
    have HS1 := Lib.hid (show n ≤ l by omega)
    have HS2 := Lib.hid (show u < m by omega)
    have hul : u ≤ 1048576 := by omega
    have hu0 : (0 : Int) ≤ (u : Int) := by omega
    have HU := Lib.hid hu
    clear hs hu h1
    go_enter Try.func58, Try.ntmps58
    go_wp2_with fail
    generalize w.alloc (.cells #[.int .i64 r, .int .i64 c, .slice a n ca, .int .i64 r', .int .i64 c', .slice b m cb] 29) = w1 at K B ⊢
    refine (c_szTensor' r c a n ca l u _ HS1.out hl HU.out).mono ?_
    rintro e w2 ⟨rfl, hb⟩
    have K2 := Lib.hid (K.out.below hb)
    have B2 := Lib.hid (Below.next B.out hb)
    clear hb
    obtain ⟨p0, p1, p2, p3, p4, p5, p6⟩ := tb6 K2.out
    go_wp2_with fail
    refine (c_szTensor_no r' c' b m cb u _ HS2.out hul hm).mono ?_
    rintro e w3 ⟨rfl, hb⟩
    have B3 := Lib.hid (Below.next B2.out hb)
    clear hb p0 p1 p2 p3 p4 p5 p6
    go_wp2_with fail
    go_ret
    exact ⟨rfl, B3.out⟩
def RetExa (r c r' c' : Int) (x y : List Nat) (w : World) (e : Ending) (w' : World) : Prop :=
  ∃ a b, e = .returned (.agg #[.int .i64 r, .int .i64 c, .slice a x.length x.length, .int .i64 r', .int .i64 c', .slice b y.length y.length]) ∧ OwnF w' w.heap.size a x.length x ∧ OwnF w' w.heap.size b y.length y ∧ (∀ g, blk a = some g → blk b ≠ some g) ∧ Below w.heap.size w w'
set_option maxRecDepth 100000 in
set_option maxHeartbeats 1000000 in
theorem c_toExa (r c r' c' : Int) (a b : Option Addr) (ca cb : Nat) (x y : List Nat) (w : World) (hx : IsFloats .f32 w a x.length ca x) (hy : IsFloats .f32 w b y.length cb y) (h1 : x.length ≤ 1048576) (h2 : y.length ≤ 1048576) :
    Calls Try.prog 62 #[.agg #[.int .i64 r, .int .i64 c, .slice a x.length ca, .int .i64 r', .int .i64 c', .slice b y.length cb]] w (RetExa r c r' c' x y w) := by
  have HX := Lib.hid hx
  have HY := Lib.hid hy
  clear hx hy
  go_enter Try.func62, Try.ntmps62
  go_wp2_with fail
  have b0 := (((Below.refl w.heap.size w).alloc (Nat.le_refl _) (.cells #[.int .i64 r, .int .i64 c, .slice a x.length ca, .int .i64 r', .int .i64 c', .slice b y.length cb] 29)).alloc (by simp) (.cells #[.int .i64 0, .int .i64 0, .slice none 0 0, .int .i64 0, .int .i64 0, .slice none 0 0] 43)).alloc (by simp; omega) (.cells #[.int .i64 0, .int .i64 0, .slice none 0 0, .int .i64 0, .int .i64 0, .slice none 0 0] 43)
  have k1 := ((Blk.new w 29 #[.int .i64 r, .int .i64 c, .slice a x.length ca, .int .i64 r', .int .i64 c', .slice b y.length cb]).below ((Below.refl _ _).alloc (Nat.le_refl _) (.cells #[.int .i64 0, .int .i64 0, .slice none 0 0, .int .i64 0, .int .i64 0, .slice none 0 0] 43))).below ((Below.refl _ _).alloc (Nat.le_refl _) (.cells #[.int .i64 0, .int .i64 0, .slice none 0 0, .int .i64 0, .int .i64 0, .slice none 0 0] 43))
  have k2 := (Blk.new (w.alloc (.cells #[.int .i64 r, .int .i64 c, .slice a x.length ca, .int .i64 r', .int .i64 c', .slice b y.length cb] 29)) 43 #[.int .i64 0, .int .i64 0, .slice none 0 0, .int .i64 0, .int .i64 0, .slice none 0 0]).below ((Below.refl _ _).alloc (Nat.le_refl _) (.cells #[.int .i64 0, .int .i64 0, .slice none 0 0, .int .i64 0, .int .i64 0, .slice none 0 0] 43))
  have k3 := Blk.new ((w.alloc (.cells #[.int .i64 r, .int .i64 c, .slice a x.length ca, .int .i64 r', .int .i64 c', .slice b y.length cb] 29)).alloc (.cells #[.int .i64 0, .int .i64 0, .slice none 0 0, .int .i64 0, .int .i64 0, .slice none 0 0] 43)) 43 #[.int .i64 0, .int .i64 0, .slice none 0 0, .int .i64 0, .int .i64 0, .slice none 0 0]
  simp only [World.size_alloc] at k2 k3
  have B0 := Lib.hid b0
  have K1 := Lib.hid k1
  have K2 := Lib.hid k2
  have K3 := Lib.hid k3
  clear b0 k1 k2 k3
  generalize ((w.alloc (.cells #[.int .i64 r, .int .i64 c, .slice a x.length ca, .int .i64 r', .int .i64 c', .slice b y.length cb] 29)).alloc (.cells #[.int .i64 0, .int .i64 0, .slice none 0 0, .int .i64 0, .int .i64 0, .slice none 0 0] 43)).alloc (.cells #[.int .i64 0, .int .i64 0, .slice none 0 0, .int .i64 0, .int .i64 0, .slice none 0 0] 43) = w1 at B0 K1 K2 K3 ⊢
  refine (c_toTensor r c a _ ca x _ (HX.out.kept B0.out) h1).mono ?_
  rintro e w2 ⟨a2, rfl, hf, hb⟩
  have A2 := Lib.hid hf
  have B2 := Lib.hid (Below.next B0.out hb)
  have L1 := Lib.hid (show w.heap.size + 1 + 1 < w1.heap.size from K3.out.lt)
  have K1b := Lib.hid (K1.out.below hb)
  have K2b := Lib.hid (K2.out.below hb)
  have K3b := Lib.hid (K3.out.below hb)
  have S2 := Lib.hid hb.size
  clear hf hb K1 K2 K3
  obtain ⟨p0, p1, p2, p3, p4, p5, p6⟩ := tb6 K1b.out
  obtain ⟨q0, q1, q2, q3, q4, q5, q6⟩ := tb6 K3b.out
  obtain ⟨f0, f1, f2, f3, f4, f5⟩ := tbf6 K3b.out
  go_wp2_with fail
  obtain ⟨hk, hg⟩ := store6a K3b.out (y0 := .int .i64 r) (y1 := .int .i64 c) (y2 := .slice a2 x.length x.length)
  have ha := A2.out.apart (b := some ⟨w.heap.size + 1 + 1, 0, none⟩) hg (fun g h1 h2 => by have := (A2.out.lt g h1).1; have := L1.out; simp [blk] at h2; omega)
  have A3 := Lib.hid ha
  have K3c := Lib.hid hk
  have K1c := Lib.hid (K1b.out.off hg (by omega))
  have K2c := Lib.hid (K2b.out.off hg (by omega))
  have B3 := Lib.hid (Below.at_ B2.out hg (by omega))
  have S3 := Lib.hid hg.size
  clear ha hk hg p0 p1 p2 p3 p4 p5 p6 q0 q1 q2 q3 q4 q5 q6 f0 f1 f2 f3 f4 f5 A2 B2 K1b K2b K3b
  obtain ⟨w3, hw3⟩ : ∃ xx : World, ((w2.setCell ⟨w.heap.size + 1 + 1, 0, none⟩ (.int .i64 r)).setCell ⟨w.heap.size + 1 + 1, 1, none⟩ (.int .i64 c)).setCell ⟨w.heap.size + 1 + 1, 2, none⟩ (.slice a2 x.length x.length) = xx := ⟨_, rfl⟩
  rw [hw3] at A3 K3c K1c K2c B3 S3 ⊢
  clear hw3
  refine (c_toTensor r' c' b _ cb y _ (HY.out.kept B3.out) h2).mono ?_
  rintro e w4 ⟨b2, rfl, hf, hb⟩
  have NAB := Lib.hid (lt_apart A3.out.lt hf.lt)
  have B4 := Lib.hid (Below.next B3.out hb)
  have A4 := Lib.hid (A3.out.kept hb)
  have L3 := Lib.hid (show w.heap.size + 1 + 1 < w3.heap.size from Nat.lt_of_lt_of_le L1.out (Nat.le_trans S2.out S3.out))
  have C4 := Lib.hid hf
  have K2d := Lib.hid (K2c.out.below hb)
  have K3d := Lib.hid (K3c.out.below hb)
  clear hf hb A3 B3 K1c K2c K3c
  obtain ⟨q0, q1, q2, q3, q4, q5, q6⟩ := tb6 K3d.out
  obtain ⟨f0, f1, f2, f3, f4, f5⟩ := tbf6 K3d.out
  obtain ⟨hk, hg⟩ := store6b K3d.out (y0 := .int .i64 r') (y1 := .int .i64 c') (y2 := .slice b2 y.length y.length)
  obtain ⟨u0, u1, u2, u3, u4, u5, u6⟩ := tb6 hk
  have hk2 := K2d.out.off hg (by omega)
  obtain ⟨s0, s1, s2, s3, s4, s5, s6⟩ := tb6 hk2
  obtain ⟨e0, e1, e2, e3, e4, e5⟩ := tbf6 hk2
  have A5 := Lib.hid (A4.out.apart (b := some ⟨w.heap.size + 1 + 1, 0, none⟩) hg (fun g h1 h2 => by have := (A4.out.lt g h1).1; have := L1.out; simp [blk] at h2; omega))
  have C5 := Lib.hid (C4.out.apart (b := some ⟨w.heap.size + 1 + 1, 0, none⟩) hg (fun g h1 h2 => by have := (C4.out.lt g h1).1; have := L3.out; simp [blk] at h2; omega))
  have B5 := Lib.hid (Below.at_ B4.out hg (by omega))
  obtain ⟨hk6, hg6⟩ := store6 hk2 (y0 := .int .i64 r) (y1 := .int .i64 c) (y2 := .slice a2 x.length x.length) (y3 := .int .i64 r') (y4 := .int .i64 c') (y5 := .slice b2 y.length y.length)
  obtain ⟨m0, m1, m2, m3, m4, m5, m6⟩ := tb6 hk6
  have A6 := Lib.hid (A5.out.apart (b := some ⟨w.heap.size + 1, 0, none⟩) hg6 (fun g h1 h2 => by have := (A5.out.lt g h1).1; have := L1.out; simp [blk] at h2; omega))
  have C6 := Lib.hid (C5.out.apart (b := some ⟨w.heap.size + 1, 0, none⟩) hg6 (fun g h1 h2 => by have := (C5.out.lt g h1).1; have := L3.out; simp [blk] at h2; omega))
  have B6 := Lib.hid (Below.at_ B5.out hg6 (by omega))
  clear hk hk2 hg hg6 hk6 K2d K3d u6 s6 q6 m6 A4 C4 B4 A5 C5 B5
  go_wp2_with fail
  exact bodyPost_ret (v := .agg #[.int .i64 r, .int .i64 c, .slice a2 x.length x.length, .int .i64 r', .int .i64 c', .slice b2 y.length y.length]) (by simp [results, Try.results62, go_sem, m0, m1, m2, m3, m4, m5]) rfl ⟨a2, b2, rfl, A6.out.base (by have := L1.out; omega), C6.out.base (by have := L3.out; omega), NAB.out, B6.out⟩
set_option maxRecDepth 20000 in
set_option maxHeartbeats 1000000 in
theorem c_eqExa (r c r' c' : Int) (a b a' b' : Option Addr) (ca cb da db : Nat) (x y x' y' : List Nat) (w : World) (hx : IsFloats .f32 w a x.length ca x) (hy : IsFloats .f32 w b y.length cb y) (hx' : IsFloats .f32 w a' x'.length da x') (hy' : IsFloats .f32 w b' y'.length db y') (ex : x.map (canon .f32) = x'.map (canon .f32)) (ey : y.map (canon .f32) = y'.map (canon .f32)) :
    Calls Try.prog 67 #[.agg #[.int .i64 r, .int .i64 c, .slice a x.length ca, .int .i64 r', .int .i64 c', .slice b y.length cb], .agg #[.int .i64 r, .int .i64 c, .slice a' x'.length da, .int .i64 r', .int .i64 c', .slice b' y'.length db]] w fun e w' => e = .returned (.bool true) ∧ Below w.heap.size w w' := by
  have HX := Lib.hid hx
  have HY := Lib.hid hy
  have HX' := Lib.hid hx'
  have HY' := Lib.hid hy'
  have EX := Lib.hid ex
  have EY := Lib.hid ey
  obtain ⟨k1, k2, b0⟩ := two_boxes w 43 #[.int .i64 r, .int .i64 c, .slice a x.length ca, .int .i64 r', .int .i64 c', .slice b y.length cb] #[.int .i64 r, .int .i64 c, .slice a' x'.length da, .int .i64 r', .int .i64 c', .slice b' y'.length db]
  have K1 := Lib.hid k1
  have K2 := Lib.hid k2
  have B0 := Lib.hid b0
  clear hx hy hx' hy' ex ey k1 k2 b0
  go_enter Try.func67, Try.ntmps67
  go_wp2_with fail
  generalize (w.alloc (.cells #[.int .i64 r, .int .i64 c, .slice a x.length ca, .int .i64 r', .int .i64 c', .slice b y.length cb] 43)).alloc (.cells #[.int .i64 r, .int .i64 c, .slice a' x'.length da, .int .i64 r', .int .i64 c', .slice b' y'.length db] 43) = w1 at K1 K2 B0 ⊢
  refine (c_eqTensor r c a a' ca da x x' _ (HX.out.kept B0.out) (HX'.out.kept B0.out) EX.out).mono ?_
  rintro e w2 ⟨rfl, hb⟩
  have B2 := Lib.hid (Below.next B0.out hb)
  obtain ⟨p0, p1, p2, p3, p4, p5, p6⟩ := tb6 (K1.out.below hb)
  obtain ⟨q0, q1, q2, q3, q4, q5, q6⟩ := tb6 (K2.out.below hb)
  clear hb B0 K1 K2
  go_wp2_with fail
  refine (c_eqTensor r' c' b b' cb db y y' _ (HY.out.kept B2.out) (HY'.out.kept B2.out) EY.out).mono ?_
  rintro e w3 ⟨rfl, hb⟩
  have B3 := Lib.hid (Below.next B2.out hb)
  clear hb p0 p1 p2 p3 p4 p5 p6 q0 q1 q2 q3 q4 q5 q6
  go_wp2_with fail
  go_ret
  exact ⟨rfl, B3.out⟩
def exaB (r c r' c' : Int) (n m : Nat) : Bool := (vokB r c n && vokB r' c' m) && (r == r')
set_option maxHeartbeats 2000000 in
theorem c_l07Data (g : Nat) (r c r' c' : Int) (a b : Option Addr) (n m ca cb : Nat) (hn : n ≤ 9223372036854775807) (hm : m ≤ 9223372036854775807) (w : World)
    (h0 : w.cell? ⟨g, 0, none⟩ = some (.int .i64 r)) (h1 : w.cell? ⟨g, 1, none⟩ = some (.int .i64 c)) (h2 : w.cell? ⟨g, 2, none⟩ = some (.slice a n ca))
    (h3 : w.cell? ⟨g, 3, none⟩ = some (.int .i64 r')) (h4 : w.cell? ⟨g, 4, none⟩ = some (.int .i64 c')) (h5 : w.cell? ⟨g, 5, none⟩ = some (.slice b m cb)) :
    Calls Try.prog 125 #[.pointer (some ⟨g, 0, none⟩)] w fun e w' => e = .returned (.bool (exaB r c r' c' n m)) ∧ Drawn w w' := by
  have C1 := fun W v (hb : vokB r c n = v) (e0 : W.cell? ⟨g, 0, none⟩ = some (.int .i64 r)) e1 e2 => c_l02Is g 0 r c a n ca v hb hn W e0 e1 e2
  have C2 := fun W v (hb : vokB r' c' m = v) (e0 : W.cell? ⟨g, 3, none⟩ = some (.int .i64 r')) e1 e2 => c_l02Is g 3 r' c' b m cb v hb hm W e0 e1 e2
  have D1 := Lib.hid C1
  have D2 := Lib.hid C2
  clear C1 C2
  cases e1 : vokB r c n with
  | false =>
    have E1 := Lib.hid e1
    have HB := Lib.hid (show exaB r c r' c' n m = false by rw [exaB, e1]; rfl)
    clear e1
    rw [HB.out]
    go_enter Try.func125, Try.ntmps125
    go_wp2
    go_quiet ((go_at_call 171; exact quiet_drawn (D1.out _ false E1.out (by go_simp) (by go_simp) (by go_simp))))
    go_wp2
    go_ret
    exact ⟨rfl, Drawn.mk _ _⟩
  | true =>
    have E1 := Lib.hid e1
    cases e2 : vokB r' c' m with
    | false =>
      have E2 := Lib.hid e2
      have HB := Lib.hid (show exaB r c r' c' n m = false by rw [exaB, e1, e2]; rfl)
      clear e1 e2
      rw [HB.out]
      go_enter Try.func125, Try.ntmps125
      go_wp2
      go_quiet ((first | (go_at_call_of 171 (Value.pointer (some ⟨g, 0, none⟩)); exact quiet_drawn (D1.out _ true E1.out (by go_simp) (by go_simp) (by go_simp))) | (go_at_call_of 171 (Value.pointer (some ⟨g, 3, none⟩)); exact quiet_drawn (D2.out _ false E2.out (by go_simp) (by go_simp) (by go_simp)))))
      go_wp2
      go_ret
      exact ⟨rfl, Drawn.mk _ _⟩
    | true =>
      have E2 := Lib.hid e2
      cases e3 : (r == r') with
      | false =>
        have HB := Lib.hid (show exaB r c r' c' n m = false by rw [exaB, e1, e2, e3]; rfl)
        clear e1 e2
        rw [HB.out]
        go_enter Try.func125, Try.ntmps125
        go_wp2
        go_quiet ((first | (go_at_call_of 171 (Value.pointer (some ⟨g, 0, none⟩)); exact quiet_drawn (D1.out _ true E1.out (by go_simp) (by go_simp) (by go_simp))) | (go_at_call_of 171 (Value.pointer (some ⟨g, 3, none⟩)); exact quiet_drawn (D2.out _ true E2.out (by go_simp) (by go_simp) (by go_simp)))))
        go_wp2
        go_ret
        exact ⟨rfl, Drawn.mk _ _⟩
      | true =>
        have HB := Lib.hid (show exaB r c r' c' n m = true by rw [exaB, e1, e2, e3]; rfl)
        clear e1 e2
        rw [HB.out]
        go_enter Try.func125, Try.ntmps125
        go_wp2
        go_quiet ((first | (go_at_call_of 171 (Value.pointer (some ⟨g, 0, none⟩)); exact quiet_drawn (D1.out _ true E1.out (by go_simp) (by go_simp) (by go_simp))) | (go_at_call_of 171 (Value.pointer (some ⟨g, 3, none⟩)); exact quiet_drawn (D2.out _ true E2.out (by go_simp) (by go_simp) (by go_simp)))))
        go_wp2
        go_ret
        exact ⟨rfl, Drawn.mk _ _⟩
def vValidExamples (r c r' c' : Int) (x y : List Nat) : Bool := exaB r c r' c' x.length y.length
set_option maxHeartbeats 1000000 in
theorem c_iValidExa (r c r' c' : Int) (a b : Option Addr) (n m ca cb : Nat) (w : World) :
    Calls Try.prog 64 #[.agg #[.int .i64 r, .int .i64 c, .slice a n ca, .int .i64 r', .int .i64 c', .slice b m cb]] w fun e w' => e = .returned (.bool (exaB r c r' c' n m)) ∧ Below w.heap.size w w' := by
  have K := Lib.hid (Blk.new w 43 #[.int .i64 r, .int .i64 c, .slice a n ca, .int .i64 r', .int .i64 c', .slice b m cb])
  have B := Lib.hid ((Below.refl w.heap.size w).alloc (Nat.le_refl _) (.cells #[.int .i64 r, .int .i64 c, .slice a n ca, .int .i64 r', .int .i64 c', .slice b m cb] 43))
  have HV := Lib.hid (show exaB r c r' c' n m = ((vokB r c n && vokB r' c' m) && (r == r')) from rfl)
  obtain ⟨v1, e1⟩ : ∃ v, vokB r c n = v := ⟨_, rfl⟩
  obtain ⟨v2, e2⟩ : ∃ v, vokB r' c' m = v := ⟨_, rfl⟩
  have E1 := Lib.hid e1
  have E2 := Lib.hid e2
  rw [e1, e2] at HV
  clear e1 e2
  cases v1 with
  | false =>
    go_enter Try.func64, Try.ntmps64
    go_wp2_with fail
    generalize w.alloc (.cells #[.int .i64 r, .int .i64 c, .slice a n ca, .int .i64 r', .int .i64 c', .slice b m cb] 43) = w1 at K B ⊢
    refine (c_iValid r c a n ca _ E1.out _).mono ?_
    rintro e w2 ⟨rfl, hb⟩
    have B2 := Lib.hid (Below.next B.out hb)
    clear hb
    go_wp2_with fail
    go_ret
    exact ⟨ret_b (by rw [HV.out]; rfl), B2.out⟩
  | true =>
    cases v2 with
    | false =>
      go_enter Try.func64, Try.ntmps64
      go_wp2_with fail
      generalize w.alloc (.cells #[.int .i64 r, .int .i64 c, .slice a n ca, .int .i64 r', .int .i64 c', .slice b m cb] 43) = w1 at K B ⊢
      refine (c_iValid r c a n ca _ E1.out _).mono ?_
      rintro e w2 ⟨rfl, hb⟩
      have B2 := Lib.hid (Below.next B.out hb)
      obtain ⟨p0, p1, p2, p3, p4, p5, p6⟩ := tb6 (K.out.below hb)
      clear hb
      go_wp2_with fail
      refine (c_iValid r' c' b m cb _ E2.out _).mono ?_
      rintro e w3 ⟨rfl, hb⟩
      have B3 := Lib.hid (Below.next B2.out hb)
      clear hb p0 p1 p2 p3 p4 p5 p6
      go_wp2_with fail
      go_ret
      exact ⟨ret_b (by rw [HV.out]; rfl), B3.out⟩
    | true =>
      go_enter Try.func64, Try.ntmps64
      go_wp2_with fail
      generalize w.alloc (.cells #[.int .i64 r, .int .i64 c, .slice a n ca, .int .i64 r', .int .i64 c', .slice b m cb] 43) = w1 at K B ⊢
      refine (c_iValid r c a n ca _ E1.out _).mono ?_
      rintro e w2 ⟨rfl, hb⟩
      have B2 := Lib.hid (Below.next B.out hb)
      have K2 := Lib.hid (K.out.below hb)
      obtain ⟨p0, p1, p2, p3, p4, p5, p6⟩ := tb6 K2.out
      clear hb
      go_wp2_with fail
      clear p0 p1 p2 p3 p4 p5 p6
      refine (c_iValid r' c' b m cb _ E2.out _).mono ?_
      rintro e w3 ⟨rfl, hb⟩
      have B3 := Lib.hid (Below.next B2.out hb)
      obtain ⟨p0, p1, p2, p3, p4, p5, p6⟩ := tb6 (K2.out.below hb)
      clear hb
      go_wp2_with fail
      go_ret
      exact ⟨ret_b (by rw [HV.out]; rfl), B3.out⟩
theorem t_iValidExamples (r c r' c' : Int) (x y : List Nat) (a b : Option Addr) (w : World) (hx : IsFloats .f32 w a x.length x.length x) (hy : IsFloats .f32 w b y.length y.length y) :
    Calls Try.prog 64 #[.agg #[.int .i64 r, .int .i64 c, .slice a x.length x.length, .int .i64 r', .int .i64 c', .slice b y.length y.length]] w (RetB (vValidExamples r c r' c' x y) w) := c_iValidExa r c r' c' a b _ _ _ _ w
end Go.Proofs.Ytaipegkkpkagnaa
