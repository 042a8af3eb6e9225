/-
  Words for states of trainings: reading, sizes, copies, comparisons. Conditions: the cells can be read.
-/
import Derived.Test.YtlddonneccihiaaSSz
namespace Go.Proofs.Ytlddonneccihiaa
open Go.RowKit Go.Deep Go.WideShapes Go.ChangeShapes
set_option linter.unusedVariables false

theorem tbt5 {w : World} {g : Nat} {t : TypeId} {a b c d e : Value} (h : Blk w g t #[a, b, c, d, e]) : w.cell? ⟨g, 0, none⟩ = some a ∧ w.cell? ⟨g, 1, none⟩ = some b ∧ w.cell? ⟨g, 2, none⟩ = some c ∧ w.cell? ⟨g, 3, none⟩ = some d ∧ w.cell? ⟨g, 4, none⟩ = some e ∧ g < w.heap.size := ⟨h.cell 0, h.cell 1, h.cell 2, h.cell 3, h.cell 4, h.lt⟩
theorem tbtf5 {w : World} {g : Nat} {t : TypeId} {cs : Array Value} (h : Blk w g t cs) : w.frozen? ⟨g, 0, none⟩ = false ∧ w.frozen? ⟨g, 1, none⟩ = false ∧ w.frozen? ⟨g, 2, none⟩ = false ∧ w.frozen? ⟨g, 3, none⟩ = false ∧ w.frozen? ⟨g, 4, none⟩ = false := ⟨h.frozen 0, h.frozen 1, h.frozen 2, h.frozen 3, h.frozen 4⟩
theorem storet5 {w : World} {g : Nat} {t : TypeId} {x0 x1 x2 x3 x4 y0 y1 y2 y3 y4 : Value} (h : Blk w g t #[x0, x1, x2, x3, x4]) :
    Blk (((((w.setCell ⟨g, 0, none⟩ y0).setCell ⟨g, 1, none⟩ y1).setCell ⟨g, 2, none⟩ y2).setCell ⟨g, 3, none⟩ y3).setCell ⟨g, 4, none⟩ y4) g t #[y0, y1, y2, y3, y4] ∧ w.grownBy (((((w.setCell ⟨g, 0, none⟩ y0).setCell ⟨g, 1, none⟩ y1).setCell ⟨g, 2, none⟩ y2).setCell ⟨g, 3, none⟩ y3).setCell ⟨g, 4, none⟩ y4) (some g) := by
  constructor
  · unfold Blk at h ⊢
    simp [World.setCell, Array.getElem?_modify, h]
  · have st : ∀ (w : World) (i : Nat) (u : Value), w.grownBy (w.setCell ⟨g, i, none⟩ u) (some g) := fun w i u =>
      ⟨rfl, rfl, rfl, by simp, fun k _ hk => Below.heap_setCell w ⟨g, i, none⟩ u k (fun e => hk (by simp [e]))⟩
    exact grown_set (grown_set (grown_set (grown_set (st w 0 y0) (st _ 1 y1)) (st _ 2 y2)) (st _ 3 y3)) (st _ 4 y4)
structure TrsA where
  g : Option Addr
  c : Nat
  ls : List LayA
  h : Option Addr
  d : Nat
  ss : List FlA
  st : Int
  sd : Int
  sc : Nat
def TrsA.cells (q : TrsA) : Array Value := #[.slice q.g q.ls.length q.c, .slice q.h q.ss.length q.d, .int .i64 q.st, .int .i64 q.sd, .float .f32 q.sc]
def TrsA.ps (q : TrsA) : List LayP := q.ls.map LayA.p
def TrsA.zs (q : TrsA) : List (List Nat) := q.ss.map FlA.z
def TrsAt (w : World) (q : TrsA) : Prop := LaysAt w q.g q.ls.length q.c q.ls ∧ SSAt w q.h q.ss.length q.d q.ss ∧ q.sc < 2 ^ 32
theorem TrsAt.kept {w w' : World} {q : TrsA} (h : TrsAt w q) (hb : Below w.heap.size w w') : TrsAt w' q := ⟨h.1.kept hb, h.2.1.kept hb, h.2.2⟩
def lsC (t : TypeId) (q : TrsA) : Cl := .sl t 5 q.ls.length q.g q.c (laysC q.ls)
def slC (t : TypeId) (q : TrsA) : Cl := .sl t 1 q.ss.length q.h q.d (ssC q.ss)
/-- the call made the lists of a state -/
def TrsOwn (w : World) (B : Nat) (q : TrsA) : Prop := OwnL w B [lsC 82 q, slC 38 q] ∧ q.sc < 2 ^ 32
def TrsA.bl (q : TrsA) : List Nat := blL [lsC 82 q, slC 38 q]
theorem TrsOwn.layers {w : World} {B : Nat} {q : TrsA} (h : TrsOwn w B q) : OwnL w B [lsC 82 q] := ⟨h.1.1, trivial⟩
theorem TrsOwn.slots {w : World} {B : Nat} {q : TrsA} (h : TrsOwn w B q) : OwnL w B [slC 38 q] := h.1.2
theorem TrsOwn.at {w : World} {B : Nat} {q : TrsA} (h : TrsOwn w B q) : TrsAt w q := ⟨laysAt_own rfl h.layers, ssAt_own h.slots, h.2⟩
theorem TrsOwn.kept {w w' : World} {B : Nat} {q : TrsA} (h : TrsOwn w B q) (hb : Below w.heap.size w w') : TrsOwn w' B q := ⟨OwnL.kept h.1 hb, h.2⟩
theorem TrsOwn.base {w : World} {B B' : Nat} {q : TrsA} (h : TrsOwn w B q) (hb : B' ≤ B) : TrsOwn w B' q := ⟨OwnL.base hb _ h.1, h.2⟩
theorem TrsOwn.lt {w : World} {B : Nat} {q : TrsA} (h : TrsOwn w B q) : ∀ x ∈ q.bl, B ≤ x ∧ x < w.heap.size := OwnL.lt _ h.1
theorem typed_lays {c : Cl} (h : c.typed (.sl 93 5 [.int, .int, .int, .sl 26 1 [.f32], .sl 26 1 [.f32]])) : ∃ g cap rs, c = .sl 93 5 (List.length rs) g cap (laysC rs) := by
  simp only [Cl.typed.eq_4] at h
  obtain ⟨g, cap, ls, rfl, hl⟩ := h
  obtain ⟨rs, e1, e2⟩ := typed_list LayA.cs (fun l h => LayA.typed h) ls hl
  exact ⟨g, cap, rs, by rw [e1, ← e2]; rfl⟩
theorem typed_ss {c : Cl} (h : c.typed (.sl 38 1 [.sl 26 1 [.f32]])) : ∃ g cap rs, c = .sl 38 1 (List.length rs) g cap (ssC rs) := by
  rw [Cl.typed.eq_4] at h
  obtain ⟨g, cap, ls, rfl, hl⟩ := h
  obtain ⟨rs, e1, e2⟩ := typed_list (fun y : FlA => [y.cl]) (es := [.sl 26 1 [.f32]]) (fun l h => by
    simp only [typedL] at h
    obtain ⟨c, cs, rfl, h, rfl⟩ := h
    obtain ⟨a, cap, ys, rfl⟩ := typed_f32s h
    exact ⟨⟨ys, a, cap⟩, rfl⟩) ls hl
  have hm : ∀ ys : List FlA, ys.flatMap (fun y => [y.cl]) = ssC ys := fun ys => by
    induction ys with
    | nil => rfl
    | cons y ys ih => rw [List.flatMap_cons, ih]; rfl
  exact ⟨g, cap, rs, by rw [e1, hm, ← e2]⟩
theorem ssAt_cl {w : World} {t : TypeId} {g : Option Addr} {c : Nat} {ls : List FlA} (h : (Cl.sl t 1 ls.length g c (ssC ls)).At w) : SSAt w g ls.length c ls := by
  simp only [Cl.At, ssC_at, Nat.mul_one, vs_ssC] at h
  obtain ⟨⟨h2, h3, _, h5⟩, h6⟩ := h
  refine ⟨rfl, h2, h3, h6, ?_⟩
  rcases h5 with h0 | ⟨b, off, e, hlt, hc⟩
  · exact .inl h0
  · refine .inr ⟨b, off, e, hlt, fun i x hx => ?_⟩
    rw [hc i (List.getElem?_eq_some_iff.1 hx).1]
    simp [hx]
set_option maxRecDepth 100000 in
theorem open_Trs {H : Type} {enc : TypeId × Value → H} {W : World} {base b0 : Nat} {re : Reach} {held : Bool} {v : Value} {d : DataW H} {p : List MemPlace}
    (hv : Value.okWide Try.prog W re b0 28 v) (h : DataW.Trod enc Try.prog W base (fun _ => true) held 28 v d p) :
    ∃ q : TrsA, v = .agg q.cells ∧ TrsAt W q := by
  obtain ⟨cs, rfl, hsz⟩ := okWide_struct Try.underlying28 hv
  obtain ⟨fuel, hf⟩ := h
  obtain ⟨l, e, ha, ht⟩ := opened 7 _ _ _ _ _ (show tyOf Try.prog 7 28 = some [.sl 93 5 [.int, .int, .int, .sl 26 1 [.f32], .sl 26 1 [.f32]], .sl 38 1 [.sl 26 1 [.f32]], .int, .int, .f32] by kernel_rfl) hf
  simp only [typedL] at ht
  obtain ⟨k0, l0, rfl, t0, k1, l1, rfl, t1, k2, l2, rfl, t2, k3, l3, rfl, t3, k4, l4, rfl, t4, rfl⟩ := ht
  obtain ⟨g, c, ls, rfl⟩ := typed_lays t0
  obtain ⟨h', d', ss, rfl⟩ := typed_ss t1
  simp only [Cl.typed.eq_1, Cl.typed.eq_2] at t2 t3 t4
  obtain ⟨st, rfl⟩ := t2
  obtain ⟨sd, rfl⟩ := t3
  obtain ⟨sc, rfl⟩ := t4
  simp only [AtL, and_true] at ha
  refine ⟨⟨g, c, ls, h', d', ss, st, sd, sc⟩, ?_, laysAt_cl.1 ha.1, ssAt_cl ha.2.1, ?_⟩
  · simp only [Value.cells] at e
    rw [show cs = (⟨g, c, ls, h', d', ss, st, sd, sc⟩ : TrsA).cells from (Array.toList_inj.1 (by rw [← e]; rfl)).symm]
  · simpa [Cl.At] using ha.2.2.2.2
def trsSum (q : TrsA) : Nat := (q.ls.length + laySum (q.ls.map LayA.p)) + (q.ss.length + cntSS q.ss)
set_option maxHeartbeats 1000000 in
theorem c_szTrs (q : TrsA) (l r : Nat) (w : World) (h : TrsAt w q) (hl : l ≤ 1048576) (hs : trsSum q ≤ l) (hr : l - trsSum q = r) :
    Calls Try.prog 7 #[.agg q.cells, .int .i64 l] w fun e w' => e = .returned (.int .i64 (r : Int)) ∧ Below w.heap.size w w' := by
  obtain ⟨g, c, ls, g', c', ss, st, sd, sc⟩ := q
  simp only [TrsAt, trsSum] at h hs hr
  obtain ⟨h1, h2, _⟩ := h
  unfold TrsA.cells
  simp only
  obtain ⟨u, hu⟩ : ∃ u, l - (ls.length + laySum (ls.map LayA.p)) = u := ⟨_, rfl⟩
  have HU := Lib.hid hu
  have HS1 := Lib.hid (show ls.length + laySum (ls.map LayA.p) ≤ l by omega)
  have HS2 := Lib.hid (show ss.length + cntSS ss ≤ u by omega)
  have HR := Lib.hid (show u - (ss.length + cntSS ss) = r by omega)
  have hu0 : (0 : Int) ≤ (u : Int) := by omega
  have hr0 : (0 : Int) ≤ (r : Int) := by omega
  have hul : u ≤ 1048576 := by omega
  have H1 := Lib.hid h1
  have H2 := Lib.hid h2
  have K := Lib.hid (Blk.new w 28 #[.slice g ls.length c, .slice g' ss.length c', .int .i64 st, .int .i64 sd, .float .f32 sc])
  have B := Lib.hid ((Below.refl w.heap.size w).alloc (Nat.le_refl _) (.cells #[.slice g ls.length c, .slice g' ss.length c', .int .i64 st, .int .i64 sd, .float .f32 sc] 28))
  clear h1 h2 hs hr hu
  go_enter Try.func7, Try.ntmps7
  go_wp2_with fail
  generalize w.alloc (.cells #[.slice g ls.length c, .slice g' ss.length c', .int .i64 st, .int .i64 sd, .float .f32 sc] 28) = w1 at K B ⊢
  refine (c_szMod g c ls.length l u ls _ (H1.out.kept B.out) hl HS1.out HU.out).mono ?_
  rintro e w2 ⟨rfl, hb⟩
  have K2 := Lib.hid (K.out.below hb)
  have B2 := Lib.hid (Below.next B.out hb)
  clear hb K B
  obtain ⟨p0, p1, p2, p3, p4, p5⟩ := tbt5 K2.out
  go_wp2_with fail
  refine (c_szSS g' c' ss.length u r ss _ (H2.out.kept B2.out) hul HS2.out HR.out).mono ?_
  rintro e w3 ⟨rfl, rfl⟩
  clear p0 p1 p2 p3 p4 p5
  go_wp2_with fail
  go_ret
  exact ⟨rfl, B2.out⟩
set_option maxHeartbeats 1000000 in
theorem c_szTrs_no (q : TrsA) (l : Nat) (w : World) (h : TrsAt w q) (hl : l ≤ 1048576) (hs : l < trsSum q) :
    Calls Try.prog 7 #[.agg q.cells, .int .i64 l] w fun e w' => e = .returned (.int .i64 (-1)) ∧ Below w.heap.size w w' := by
  obtain ⟨g, c, ls, g', c', ss, st, sd, sc⟩ := q
  simp only [TrsAt, trsSum] at h hs
  obtain ⟨h1, h2, _⟩ := h
  unfold TrsA.cells
  simp only
  have H1 := Lib.hid h1
  have H2 := Lib.hid h2
  have K := Lib.hid (Blk.new w 28 #[.slice g ls.length c, .slice g' ss.length c', .int .i64 st, .int .i64 sd, .float .f32 sc])
  have B := Lib.hid ((Below.refl w.heap.size w).alloc (Nat.le_refl _) (.cells #[.slice g ls.length c, .slice g' ss.length c', .int .i64 st, .int .i64 sd, .float .f32 sc] 28))
  by_cases hq : ls.length + laySum (ls.map LayA.p) ≤ l
  case neg =>
    have HS1 := Lib.hid (show l < ls.length + laySum (ls.map LayA.p) by omega)
    clear h1 h2 hs hq
    go_enter Try.func7, Try.ntmps7
    go_wp2_with fail
    generalize w.alloc (.cells #[.slice g ls.length c, .slice g' ss.length c', .int .i64 st, .int .i64 sd, .float .f32 sc] 28) = w1 at K B ⊢
    refine (c_szMod_no g c ls.length l ls _ (H1.out.kept B.out) hl HS1.out).mono ?_
    rintro e w2 ⟨rfl, hb⟩
    have B2 := Lib.hid (Below.next B.out hb)
    clear hb
    go_wp2_with fail
    go_ret
    exact ⟨rfl, B2.out⟩
  case pos =>
    obtain ⟨u, hu⟩ : ∃ u, l - (ls.length + laySum (ls.map LayA.p)) = u := ⟨_, rfl⟩
    have HU := Lib.hid hu
    have HS1 := Lib.hid hq
    have HS2 := Lib.hid (show u < ss.length + cntSS ss by omega)
    have hu0 : (0 : Int) ≤ (u : Int) := by omega
    have hul : u ≤ 1048576 := by omega
    clear h1 h2 hs hu hq
    go_enter Try.func7, Try.ntmps7
    go_wp2_with fail
    generalize w.alloc (.cells #[.slice g ls.length c, .slice g' ss.length c', .int .i64 st, .int .i64 sd, .float .f32 sc] 28) = w1 at K B ⊢
    refine (c_szMod g c ls.length l u ls _ (H1.out.kept B.out) hl HS1.out HU.out).mono ?_
    rintro e w2 ⟨rfl, hb⟩
    have K2 := Lib.hid (K.out.below hb)
    have B2 := Lib.hid (Below.next B.out hb)
    clear hb K B
    obtain ⟨p0, p1, p2, p3, p4, p5⟩ := tbt5 K2.out
    go_wp2_with fail
    refine (c_szSS_no g' c' ss.length u ss _ (H2.out.kept B2.out) hul HS2.out).mono ?_
    rintro e w3 ⟨rfl, rfl⟩
    clear p0 p1 p2 p3 p4 p5
    go_wp2_with fail
    go_ret
    exact ⟨rfl, B2.out⟩
set_option maxRecDepth 20000 in
set_option maxHeartbeats 1000000 in
theorem c_eqTrs (q q' : TrsA) (w : World) (h : TrsAt w q) (h' : TrsAt w q') (e1 : q.ls.map (fun x => x.p.can) = q'.ls.map (fun x => x.p.can)) (e2 : q.ss.map (fun x => x.z.map (canon .f32)) = q'.ss.map (fun x => x.z.map (canon .f32))) (e3 : q.st = q'.st) (e4 : q.sd = q'.sd) (e5 : canon .f32 q.sc = canon .f32 q'.sc) :
    Calls Try.prog 11 #[.agg q.cells, .agg q'.cells] w fun e w' => e = .returned (.bool true) ∧ Below w.heap.size w w' := by
  obtain ⟨g, c, ls, h0, d, ss, st, sd, sc⟩ := q
  obtain ⟨g', c', ls', h0', d', ss', st', sd', sc'⟩ := q'
  simp only [TrsAt] at h h' e1 e2 e3 e4 e5
  subst e3 e4
  unfold TrsA.cells
  simp only
  have n1 : ls'.length = ls.length := by simpa using (congrArg List.length e1).symm
  have n2 : ss'.length = ss.length := by simpa using (congrArg List.length e2).symm
  rw [n1, n2] at h'
  rw [n1, n2]
  obtain ⟨a1, a2, _⟩ := h
  obtain ⟨b1, b2, _⟩ := h'
  have A1 := Lib.hid a1
  have A2 := Lib.hid a2
  have B1 := Lib.hid b1
  have B2 := Lib.hid b2
  have E1 := Lib.hid e1
  have E2 := Lib.hid e2
  have E5 := Lib.hid e5
  have b0 := ((Below.refl w.heap.size w).alloc (Nat.le_refl _) (.cells #[.slice g ls.length c, .slice h0 ss.length d, .int .i64 st, .int .i64 sd, .float .f32 sc] 35)).alloc (by simp) (.cells #[.slice g' ls.length c', .slice h0' ss.length d', .int .i64 st, .int .i64 sd, .float .f32 sc'] 35)
  have k1 := (Blk.new w 35 #[.slice g ls.length c, .slice h0 ss.length d, .int .i64 st, .int .i64 sd, .float .f32 sc]).below ((Below.refl _ _).alloc (Nat.le_refl _) (.cells #[.slice g' ls.length c', .slice h0' ss.length d', .int .i64 st, .int .i64 sd, .float .f32 sc'] 35))
  have k2 := Blk.new (w.alloc (.cells #[.slice g ls.length c, .slice h0 ss.length d, .int .i64 st, .int .i64 sd, .float .f32 sc] 35)) 35 #[.slice g' ls.length c', .slice h0' ss.length d', .int .i64 st, .int .i64 sd, .float .f32 sc']
  simp only [World.size_alloc] at k2
  have B0 := Lib.hid b0
  have K1 := Lib.hid k1
  have K2 := Lib.hid k2
  clear a1 a2 b1 b2 e1 e2 e5 n1 n2 b0 k1 k2
  go_enter Try.func11, Try.ntmps11
  go_wp2_with fail
  generalize (w.alloc (.cells #[.slice g ls.length c, .slice h0 ss.length d, .int .i64 st, .int .i64 sd, .float .f32 sc] 35)).alloc (.cells #[.slice g' ls.length c', .slice h0' ss.length d', .int .i64 st, .int .i64 sd, .float .f32 sc'] 35) = w1 at K1 K2 B0 ⊢
  refine (c_eqMod g g' c c' ls.length ls ls' _ (A1.out.kept B0.out) (B1.out.kept B0.out) E1.out).mono ?_
  rintro e w2 ⟨rfl, hb⟩
  have K12 := Lib.hid (K1.out.below hb)
  have K22 := Lib.hid (K2.out.below hb)
  have BB2 := Lib.hid (Below.next B0.out hb)
  clear hb K1 K2 B0
  obtain ⟨p0, p1, p2, p3, p4, p5⟩ := tbt5 K12.out
  obtain ⟨q0, q1, q2, q3, q4, q5⟩ := tbt5 K22.out
  go_wp2_with fail
  refine (c_eqSS h0 h0' d d' ss.length ss ss' _ (A2.out.kept BB2.out) (B2.out.kept BB2.out) E2.out).mono ?_
  rintro e w3 ⟨rfl, hb⟩
  have K13 := Lib.hid (K12.out.below hb)
  have K23 := Lib.hid (K22.out.below hb)
  have BB3 := Lib.hid (Below.next BB2.out hb)
  clear hb K12 K22 BB2 p0 p1 p2 p3 p4 p5 q0 q1 q2 q3 q4 q5
  obtain ⟨p0, p1, p2, p3, p4, p5⟩ := tbt5 K13.out
  obtain ⟨q0, q1, q2, q3, q4, q5⟩ := tbt5 K23.out
  go_wp2_with (go_at_call 38; refine (c_sameFloat _ _ (cwide_same _ _ E5.out) _).mono ?_; rintro e w' ⟨rfl, m, rfl⟩)
  go_ret
  refine ⟨rfl, ?_⟩
  repeat with_reducible refine below_drewN ?_ _
  exact BB3.out
theorem OwnL.offg {w w' : World} {B g : Nat} {l : List Cl} (h : OwnL w B l) (hg : w.grownBy w' (some g)) (hlt : g < B) : OwnL w' B l := by
  refine OwnL.apart (GrownIn.of_grown (a := some ⟨g, 0, none⟩) hg) _ h (fun q hq hs => ?_)
  have h1 := (OwnL.lt _ h q hq).1
  simp [blk] at hs
  omega
theorem storet1 {w : World} {g : Nat} {t : TypeId} {x0 x1 x2 x3 x4 y0 : Value} (h : Blk w g t #[x0, x1, x2, x3, x4]) :
    Blk (w.setCell ⟨g, 0, none⟩ y0) g t #[y0, x1, x2, x3, x4] ∧ w.grownBy (w.setCell ⟨g, 0, none⟩ y0) (some g) := by
  constructor
  · unfold Blk at h ⊢
    simp [World.setCell, Array.getElem?_modify, h]
  · exact ⟨rfl, rfl, rfl, by simp, fun k _ hk => Below.heap_setCell w ⟨g, 0, none⟩ y0 k (fun e => hk (by simp [e]))⟩
theorem storet4 {w : World} {g : Nat} {t : TypeId} {x0 x1 x2 x3 x4 y1 y2 y3 y4 : Value} (h : Blk w g t #[x0, x1, x2, x3, x4]) :
    Blk ((((w.setCell ⟨g, 1, none⟩ y1).setCell ⟨g, 2, none⟩ y2).setCell ⟨g, 3, none⟩ y3).setCell ⟨g, 4, none⟩ y4) g t #[x0, y1, y2, y3, y4] ∧ w.grownBy ((((w.setCell ⟨g, 1, none⟩ y1).setCell ⟨g, 2, none⟩ y2).setCell ⟨g, 3, none⟩ y3).setCell ⟨g, 4, none⟩ y4) (some g) := by
  constructor
  · unfold Blk at h ⊢
    simp [World.setCell, Array.getElem?_modify, h]
  · have st : ∀ (w : World) (i : Nat) (u : Value), w.grownBy (w.setCell ⟨g, i, none⟩ u) (some g) := fun w i u =>
      ⟨rfl, rfl, rfl, by simp, fun k _ hk => Below.heap_setCell w ⟨g, i, none⟩ u k (fun e => hk (by simp [e]))⟩
    exact grown_set (grown_set (grown_set (st w 1 y1) (st _ 2 y2)) (st _ 3 y3)) (st _ 4 y4)
def RetTrs (ps : List LayP) (zs : List (List Nat)) (st sd : Int) (sc : Nat) (w : World) (e : Ending) (w' : World) : Prop :=
  ∃ q : TrsA, e = .returned (.agg q.cells) ∧ q.ps = ps ∧ q.zs = zs ∧ q.st = st ∧ q.sd = sd ∧ q.sc = sc ∧ TrsOwn w' w.heap.size q ∧ q.bl.Nodup ∧ Below w.heap.size w w'
set_option maxRecDepth 100000 in
set_option maxHeartbeats 2000000 in
theorem c_toTrs (q : TrsA) (w : World) (h : TrsAt w q) (hl : trsSum q ≤ 1048576) :
    Calls Try.prog 9 #[.agg q.cells] w (RetTrs q.ps q.zs q.st q.sd q.sc w) := by
  obtain ⟨g, c, ls, g', c', ss, st, sd, sc⟩ := q
  simp only [TrsAt, trsSum] at h hl
  obtain ⟨h1, h2, h3⟩ := h
  unfold TrsA.cells TrsA.ps TrsA.zs
  simp only
  have H1 := Lib.hid h1
  have H2 := Lib.hid h2
  have H3 := Lib.hid h3
  have L1 := Lib.hid (show ls.length + laySum (ls.map LayA.p) ≤ 1048576 by omega)
  have L2 := Lib.hid (show ss.length + cntSS ss ≤ 1048576 by omega)
  clear h1 h2 h3 hl
  go_enter Try.func9, Try.ntmps9
  go_wp2_with fail
  have b0 := (((Below.refl w.heap.size w).alloc (Nat.le_refl _) (.cells #[.slice g ls.length c, .slice g' ss.length c', .int .i64 st, .int .i64 sd, .float .f32 sc] 28)).alloc (by simp) (.cells #[.slice none 0 0, .slice none 0 0, .int .i64 0, .int .i64 0, .float .f32 0] 35)).alloc (by simp; omega) (.cells #[.slice none 0 0, .slice none 0 0, .int .i64 0, .int .i64 0, .float .f32 0] 35)
  have k1 := ((Blk.new w 28 #[.slice g ls.length c, .slice g' ss.length c', .int .i64 st, .int .i64 sd, .float .f32 sc]).below ((Below.refl _ _).alloc (Nat.le_refl _) (.cells #[.slice none 0 0, .slice none 0 0, .int .i64 0, .int .i64 0, .float .f32 0] 35))).below ((Below.refl _ _).alloc (Nat.le_refl _) (.cells #[.slice none 0 0, .slice none 0 0, .int .i64 0, .int .i64 0, .float .f32 0] 35))
  have k2 := (Blk.new (w.alloc (.cells #[.slice g ls.length c, .slice g' ss.length c', .int .i64 st, .int .i64 sd, .float .f32 sc] 28)) 35 #[.slice none 0 0, .slice none 0 0, .int .i64 0, .int .i64 0, .float .f32 0]).below ((Below.refl _ _).alloc (Nat.le_refl _) (.cells #[.slice none 0 0, .slice none 0 0, .int .i64 0, .int .i64 0, .float .f32 0] 35))
  have k3 := Blk.new ((w.alloc (.cells #[.slice g ls.length c, .slice g' ss.length c', .int .i64 st, .int .i64 sd, .float .f32 sc] 28)).alloc (.cells #[.slice none 0 0, .slice none 0 0, .int .i64 0, .int .i64 0, .float .f32 0] 35)) 35 #[.slice none 0 0, .slice none 0 0, .int .i64 0, .int .i64 0, .float .f32 0]
  simp only [World.size_alloc] at k2 k3
  have B0 := Lib.hid b0
  have K1 := Lib.hid k1
  have K2 := Lib.hid k2
  have K3 := Lib.hid k3
  clear b0 k1 k2 k3
  generalize ((w.alloc (.cells #[.slice g ls.length c, .slice g' ss.length c', .int .i64 st, .int .i64 sd, .float .f32 sc] 28)).alloc (.cells #[.slice none 0 0, .slice none 0 0, .int .i64 0, .int .i64 0, .float .f32 0] 35)).alloc (.cells #[.slice none 0 0, .slice none 0 0, .int .i64 0, .int .i64 0, .float .f32 0] 35) = w1 at B0 K1 K2 K3 ⊢
  refine (c_toMod g c ls.length ls _ (H1.out.kept B0.out) L1.out).mono ?_
  rintro e w2 ⟨gd, ys, rfl, hyl, hyp, ho, hnd, hb⟩
  have S1 := Lib.hid (show w.heap.size + 1 + 1 < w1.heap.size from K3.out.lt)
  have K1b := Lib.hid (K1.out.below hb)
  have K2b := Lib.hid (K2.out.below hb)
  have K3b := Lib.hid (K3.out.below hb)
  have B2 := Lib.hid (Below.next B0.out hb)
  have HYL := Lib.hid hyl
  have HYP := Lib.hid hyp
  have ND := Lib.hid hnd
  have O2 := Lib.hid ho
  clear hb hyl hyp hnd ho K1 K2 K3 B0
  obtain ⟨p0, p1, p2, p3, p4, p5⟩ := tbt5 K1b.out
  obtain ⟨q0, q1, q2, q3, q4, q5⟩ := tbt5 K3b.out
  obtain ⟨f0, f1, f2, f3, f4⟩ := tbtf5 K3b.out
  go_wp2_with fail
  obtain ⟨hk, hg⟩ := storet1 K3b.out (y0 := .slice (some ⟨gd, 0, none⟩) ls.length ls.length)
  have O3 := Lib.hid (O2.out.offg hg S1.out)
  have K3c := Lib.hid hk
  have K1c := Lib.hid (K1b.out.off hg (by omega))
  have K2c := Lib.hid (K2b.out.off hg (by omega))
  have B3 := Lib.hid (Below.at_ B2.out hg (by omega))
  clear hk hg p0 p1 p2 p3 p4 p5 q0 q1 q2 q3 q4 q5 f0 f1 f2 f3 f4 O2 K1b K2b K3b B2
  generalize w2.setCell ⟨w.heap.size + 1 + 1, 0, none⟩ (.slice (some ⟨gd, 0, none⟩) ls.length ls.length) = w3 at O3 K3c K1c K2c B3 ⊢
  refine (c_toSS g' c' ss.length ss _ (H2.out.kept B3.out) L2.out).mono ?_
  rintro e w4 ⟨hd, zs, rfl, hzl, hzp, ho, hnd, hb⟩
  have S3 := Lib.hid (show w.heap.size + 1 + 1 < w3.heap.size from K3c.out.lt)
  have K1d := Lib.hid (K1c.out.below hb)
  have K2d := Lib.hid (K2c.out.below hb)
  have K3d := Lib.hid (K3c.out.below hb)
  have B4 := Lib.hid (Below.next B3.out hb)
  have HZL := Lib.hid hzl
  have HZP := Lib.hid hzp
  have ND2 := Lib.hid hnd
  have OS := Lib.hid ho
  have OL := Lib.hid (OwnL.kept O3.out hb)
  have AP := Lib.hid (fun x hx y hy (e : x = y) => by subst e; exact apart_new O3.out ho x hx hy)
  clear hb hzl hzp hnd ho K1c K2c K3c B3 O3
  obtain ⟨p0, p1, p2, p3, p4, p5⟩ := tbt5 K1d.out
  obtain ⟨q0, q1, q2, q3, q4, q5⟩ := tbt5 K3d.out
  obtain ⟨f0, f1, f2, f3, f4⟩ := tbtf5 K3d.out
  obtain ⟨r0, r1, r2, r3, r4, r5⟩ := tbt5 K2d.out
  obtain ⟨e0, e1, e2, e3, e4⟩ := tbtf5 K2d.out
  obtain ⟨hk, hg⟩ := storet4 K3d.out (y1 := .slice (some ⟨hd, 0, none⟩) ss.length ss.length) (y2 := .int .i64 st) (y3 := .int .i64 sd) (y4 := .float .f32 sc)
  have hk2 := K2d.out.off hg (by omega)
  have OL5 := Lib.hid (OL.out.offg hg S1.out)
  have OS5 := Lib.hid (OS.out.offg hg S3.out)
  have B5 := Lib.hid (Below.at_ B4.out hg (by omega))
  obtain ⟨hk6, hg6⟩ := storet5 hk2 (y0 := .slice (some ⟨gd, 0, none⟩) ls.length ls.length) (y1 := .slice (some ⟨hd, 0, none⟩) ss.length ss.length) (y2 := .int .i64 st) (y3 := .int .i64 sd) (y4 := .float .f32 sc)
  have OL6 := Lib.hid (OL5.out.offg hg6 (by have := S1.out; omega))
  have OS6 := Lib.hid (OS5.out.offg hg6 (by have := S3.out; omega))
  have B6 := Lib.hid (Below.at_ B5.out hg6 (by omega))
  obtain ⟨m0, m1, m2, m3, m4, m5⟩ := tbt5 hk6
  have SL1 := Lib.hid (show w.heap.size ≤ w1.heap.size by have := S1.out; omega)
  have SL3 := Lib.hid (show w.heap.size ≤ w3.heap.size by have := S3.out; omega)
  clear hk hk2 hg hg6 hk6 OL OS OL5 OS5 B4 B5 m5
  go_wp2_with fail
  refine bodyPost_ret (v := .agg #[.slice (some ⟨gd, 0, none⟩) ls.length ls.length, .slice (some ⟨hd, 0, none⟩) ss.length ss.length, .int .i64 st, .int .i64 sd, .float .f32 sc]) (by simp [results, Try.results9, go_sem, m0, m1, m2, m3, m4]) rfl ?_
  refine ⟨⟨some ⟨gd, 0, none⟩, ls.length, ys, some ⟨hd, 0, none⟩, ss.length, zs, st, sd, sc⟩, ?_, HYP.out, HZP.out, rfl, rfl, rfl, ⟨⟨?_, ?_⟩, H3.out⟩, ?_, B6.out⟩
  · simp only [TrsA.cells, HYL.out, HZL.out]
  · have := OwnL.base SL1.out _ OL6.out
    simp only [OwnL, and_true] at this
    simp only [lsC, HYL.out]
    exact this
  · have := OwnL.base SL3.out _ OS6.out
    simp only [slC, HZL.out]
    exact this
  · simp only [TrsA.bl, blL, List.append_nil]
    have n1 := ND.out
    have n2 := ND2.out
    simp only [blL, List.append_nil] at n1 n2
    refine List.nodup_append.2 ⟨?_, ?_, ?_⟩
    · simp only [lsC, HYL.out]; exact n1
    · simp only [slC, HZL.out]; exact n2
    · intro x hx y hy e
      refine AP.out x ?_ y ?_ e
      · simp only [lsC, HYL.out] at hx; simpa only [blL, List.append_nil] using hx
      · simp only [slC, HZL.out] at hy; simpa only [blL, List.append_nil] using hy
end Go.Proofs.Ytlddonneccihiaa
