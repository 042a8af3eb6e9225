/-
  Marks of examples. Conditions: the two lists are the call's own and lie apart.
-/
import Derived.Test.YtaipegkkpkagnaaExa
import Derived.Test.YtaipegkkpkagnaaInts
namespace Go.Proofs.Ytaipegkkpkagnaa
open Go.RowKit Go.Deep Go.WideShapes Go.ChangeShapes
set_option linter.unusedVariables false

theorem OwnF.inP {w w' : World} {B : Nat} {a : Option Addr} {cap : Nat} {ys : List Nat} {S : List Nat} (h : OwnF w B a cap ys) (hg : GrownIn w w' S) (hne : ∀ g, blk a = some g → g ∉ S) : OwnF w' B a cap ys :=
  ⟨ownsRow_in h.1 hg (fun g hm => hne g (by simpa using hm)), h.2⟩
theorem OwnF.notbox {w : World} {B g : Nat} {a : Option Addr} {cap : Nat} {ys : List Nat} {t : TypeId} {cs : Array Value} (ho : OwnF w B a cap ys) (h : Blk w g t cs) (ht : t ≠ 22) : ∀ x, blk a = some x → x ≠ g := by
  intro x e e'
  subst e'
  rcases ho.1.2 with ⟨hv, _⟩ | ⟨g', c, cur, hv, _, hh, _⟩
  · simp only [Value.slice.injEq] at hv
    rw [hv.1] at e
    cases e
  · simp only [Value.slice.injEq] at hv
    rw [hv.1] at e
    simp only [blk, Option.map_some, Option.some.injEq] at e
    subst e
    unfold Blk at h
    rw [h] at hh
    simp only [Option.some.injEq, Obj.cells.injEq] at hh
    exact ht hh.2.1
def pairS (a b : Option Addr) : List Nat := (blk a).toList ++ (blk b).toList
theorem mem_pairS {a b : Option Addr} {g : Nat} : g ∈ pairS a b ↔ blk a = some g ∨ blk b = some g := by simp [pairS]
theorem not_pairS {a b : Option Addr} {g : Nat} (h1 : blk a ≠ some g) (h2 : blk b ≠ some g) : g ∉ pairS a b := fun h => by
  rcases mem_pairS.1 h with h | h
  · exact h1 h
  · exact h2 h
theorem Blk.inPair {w w' : World} {g B B' : Nat} {t : TypeId} {cs : Array Value} {a b : Option Addr} {ca cb : Nat} {x y : List Nat} (h : Blk w g t cs) (hg : GrownIn w w' (pairS a b)) (ha : OwnF w B a ca x) (hb : OwnF w B' b cb y) (ht : t ≠ 22) : Blk w' g t cs :=
  h.inn hg (not_pairS (fun e => ha.notbox h ht g e rfl) (fun e => hb.notbox h ht g e rfl))
theorem OwnF.inPair {w w' : World} {B : Nat} {a b c : Option Addr} {cap : Nat} {ys : List Nat} (h : OwnF w B c cap ys) (hg : GrownIn w w' (pairS a b)) (h1 : ∀ g, blk c = some g → blk a ≠ some g) (h2 : ∀ g, blk c = some g → blk b ≠ some g) : OwnF w' B c cap ys :=
  h.inP hg fun g e => not_pairS (h1 g e) (h2 g e)
theorem OwnI.inPair {w w' : World} {B : Nat} {a b c : Option Addr} {cap : Nat} {ys : List Int} (h : OwnI w B c cap ys) (hg : GrownIn w w' (pairS a b)) (h1 : ∀ g, blk c = some g → blk a ≠ some g) (h2 : ∀ g, blk c = some g → blk b ≠ some g) : OwnI w' B c cap ys :=
  ⟨ownsRow_in h.1 hg (fun g hm => not_pairS (h1 g (by simpa using hm)) (h2 g (by simpa using hm))), h.2⟩
theorem Below.inPair {W w w' : World} {B B' : Nat} {a b : Option Addr} {ca cb : Nat} {x y : List Nat} (h : Below W.heap.size W w) (hg : GrownIn w w' (pairS a b)) (ha : OwnF w B a ca x) (hb : OwnF w B' b cb y) (h1 : W.heap.size ≤ B) (h2 : W.heap.size ≤ B') : Below W.heap.size W w' :=
  hg.below' h fun k hk => by
    rcases mem_pairS.1 hk with e | e
    · exact Nat.le_trans h1 (ha.lt k e).1
    · exact Nat.le_trans h2 (hb.lt k e).1
set_option maxHeartbeats 1000000 in
theorem c_markExa (r c r' c' : Int) (a b : Option Addr) (ca cb B B' k m : Nat) (x y : List Nat) (w : World) (hx : OwnF w B a ca x) (hy : OwnF w B' b cb y) (hab : ∀ g, blk a = some g → blk b ≠ some g) (hm : k + x.length + y.length = m) (hm4 : m ≤ 4194304) (h1 : x.length ≤ 1048576) (h2 : y.length ≤ 1048576) :
    Calls Try.prog 72 #[.agg #[.int .i64 r, .int .i64 c, .slice a x.length ca, .int .i64 r', .int .i64 c', .slice b y.length cb], .int .i64 k] w fun e w' => e = .returned (.int .i64 (m : Int)) ∧ OwnF w' B a ca (marks k x.length) ∧ OwnF w' B' b cb (marks (k + x.length) y.length) ∧ GrownIn w w' (pairS a b) := by
  obtain ⟨u, hu⟩ : ∃ u, k + x.length = u := ⟨_, rfl⟩
  have HU := Lib.hid hu
  have HM := Lib.hid (show u + y.length = m by omega)
  have hk4 : k ≤ 4194304 := by omega
  have hu4 : u ≤ 4194304 := by omega
  have al := (Below.refl w.heap.size w).alloc (Nat.le_refl _) (.cells #[.int .i64 r, .int .i64 c, .slice a x.length ca, .int .i64 r', .int .i64 c', .slice b y.length cb] 43)
  have K := Lib.hid (Blk.new w 43 #[.int .i64 r, .int .i64 c, .slice a x.length ca, .int .i64 r', .int .i64 c', .slice b y.length cb])
  have HX := Lib.hid (hx.kept al)
  have HY := Lib.hid (hy.kept al)
  have HG := Lib.hid (GrownIn.of_below al (pairS a b))
  have HAB := Lib.hid hab
  rw [hu]
  clear hx hy hab hu hm al
  go_enter Try.func72, Try.ntmps72
  go_wp2_with fail
  generalize w.alloc (.cells #[.int .i64 r, .int .i64 c, .slice a x.length ca, .int .i64 r', .int .i64 c', .slice b y.length cb] 43) = w1 at K HX HY HG ⊢
  refine (c_markTensor' r c a ca B k u x _ HX.out HU.out hk4 h1).mono ?_
  rintro e w2 ⟨rfl, ho, hg⟩
  have K2 := Lib.hid (K.out.apart hg HX.out (by decide))
  have HY2 := Lib.hid (HY.out.apart hg (fun g h1 h2 => HAB.out g h2 h1))
  have HX2 := Lib.hid ho
  have HG2 := Lib.hid (HG.out.trans ((GrownIn.of_grown hg).mono fun q hq => List.mem_append_left _ hq))
  clear ho hg K HX HY HG
  obtain ⟨p0, p1, p2, p3, p4, p5, p6⟩ := tb6 K2.out
  go_wp2_with fail
  refine (c_markTensor' r' c' b cb B' u m y _ HY2.out HM.out hu4 h2).mono ?_
  rintro e w3 ⟨rfl, ho, hg⟩
  have HX3 := Lib.hid (HX2.out.apart hg HAB.out)
  have HY3 := Lib.hid ho
  have HG3 := Lib.hid (HG2.out.trans ((GrownIn.of_grown hg).mono fun q hq => List.mem_append_right _ hq))
  clear ho hg p0 p1 p2 p3 p4 p5 p6
  go_wp2_with fail
  go_ret
  exact ⟨rfl, HX3.out, HY3.out, HG3.out⟩
theorem c_heldExa (r c r' c' : Int) (a b : Option Addr) (ca cb k m n n' : Nat) (w : World) (hx : IsFloats .f32 w a n ca (marks k n)) (hy : IsFloats .f32 w b n' cb (marks (k + n) n')) (hm : k + n + n' = m) (hm4 : m ≤ 4194304) (h1 : n ≤ 1048576) (h2 : n' ≤ 1048576) :
    Calls Try.prog 74 #[.agg #[.int .i64 r, .int .i64 c, .slice a n ca, .int .i64 r', .int .i64 c', .slice b n' cb], .int .i64 k] w fun e w' => e = .returned (.int .i64 (m : Int)) ∧ Below w.heap.size w w' := by
  obtain ⟨u, hu⟩ : ∃ u, k + n = u := ⟨_, rfl⟩
  have HU := Lib.hid hu
  have HM := Lib.hid (show u + n' = m by omega)
  have hk4 : k ≤ 4194304 := by omega
  have hu4 : u ≤ 4194304 := by omega
  have hu0 : (0 : Int) ≤ (u : Int) := by omega
  have hm0 : (0 : Int) ≤ (m : Int) := by omega
  rw [hu] at hy
  have al := (Below.refl w.heap.size w).alloc (Nat.le_refl _) (.cells #[.int .i64 r, .int .i64 c, .slice a n ca, .int .i64 r', .int .i64 c', .slice b n' cb] 43)
  have K := Lib.hid (Blk.new w 43 #[.int .i64 r, .int .i64 c, .slice a n ca, .int .i64 r', .int .i64 c', .slice b n' cb])
  have HX := Lib.hid (hx.kept al)
  have HY := Lib.hid (hy.kept al)
  have B := Lib.hid al
  clear hx hy hu hm al
  go_enter Try.func74, Try.ntmps74
  go_wp2_with fail
  generalize w.alloc (.cells #[.int .i64 r, .int .i64 c, .slice a n ca, .int .i64 r', .int .i64 c', .slice b n' cb] 43) = w1 at K HX HY B ⊢
  refine (c_heldTensor' r c a ca k u n _ HX.out HU.out hk4 h1).mono ?_
  rintro e w2 ⟨rfl, hb⟩
  have K2 := Lib.hid (K.out.below hb)
  have HY2 := Lib.hid (HY.out.kept hb)
  have B2 := Lib.hid (Below.next B.out hb)
  clear hb K HX HY B
  obtain ⟨p0, p1, p2, p3, p4, p5, p6⟩ := tb6 K2.out
  go_wp2_with fail
  refine (c_heldTensor' r' c' b cb u m n' _ HY2.out HM.out hu4 h2).mono ?_
  rintro e w3 ⟨rfl, hb⟩
  have B3 := Lib.hid (Below.next B2.out hb)
  clear hb p0 p1 p2 p3 p4 p5 p6
  go_wp2_with fail
  go_ret
  exact ⟨rfl, B3.out⟩
end Go.Proofs.Ytaipegkkpkagnaa
