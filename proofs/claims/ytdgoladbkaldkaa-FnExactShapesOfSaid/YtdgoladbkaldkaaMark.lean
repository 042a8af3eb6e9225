/-
  Marking lists of layers and looking again. Conditions: the call made them, each block once.
-/
import Derived.Test.YtdgoladbkaldkaaMod
namespace Go.Proofs.Ytdgoladbkaldkaa
open Go.RowKit
set_option linter.unusedVariables false

def mkLay (k : Nat) (x : LayA) : LayA := { x with p := ⟨(k : Int), (k : Int) + 1, (k : Int) + 1 + 1, marks (k + 3) x.p.ws.length, marks (k + 3 + x.p.ws.length) x.p.bs.length⟩ }
def mkLays (k : Nat) : List LayA → List LayA
  | [] => []
  | x :: xs => mkLay k x :: mkLays (k + 3 + (x.p.ws.length + x.p.bs.length)) xs
def cntLays (ls : List LayA) : Nat := 3 * ls.length + laySum (ls.map LayA.p)
theorem cnt_copy {y : List LayA} {n : Nat} {ps : List LayP} (hl : y.length = n) (hp : y.map LayA.p = ps) : cntLays y = 3 * n + laySum ps := by simp only [cntLays, hl, hp]
theorem cntLays_cons (x : LayA) (xs : List LayA) : cntLays (x :: xs) = 3 + (x.p.ws.length + x.p.bs.length) + cntLays xs := by
  simp only [cntLays, List.length_cons, List.map_cons, laySum, List.sum_cons, LayP.n]; omega
theorem cntLays_append (a b : List LayA) : cntLays (a ++ b) = cntLays a + cntLays b := by
  simp only [cntLays, List.length_append, List.map_append, laySum, List.sum_append]; omega
theorem mkLays_append (k : Nat) (a b : List LayA) : mkLays k (a ++ b) = mkLays k a ++ mkLays (k + cntLays a) b := by
  induction a generalizing k with
  | nil => simp [mkLays, cntLays, laySum]
  | cons x xs ih =>
    simp only [List.cons_append, mkLays, ih, cntLays_cons]
    rw [show k + 3 + (x.p.ws.length + x.p.bs.length) + cntLays xs = k + (3 + (x.p.ws.length + x.p.bs.length) + cntLays xs) by omega]
theorem mkLays_length (k : Nat) (a : List LayA) : (mkLays k a).length = a.length := by
  induction a generalizing k with
  | nil => rfl
  | cons x xs ih => simp [mkLays, ih]
theorem laysC_append (a b : List LayA) : laysC (a ++ b) = laysC a ++ laysC b := by simp [laysC]
theorem laysC_cons (x : LayA) (b : List LayA) : laysC (x :: b) = x.cs ++ laysC b := by simp [laysC]
theorem bl_mkLays (k : Nat) (a : List LayA) : blL (laysC (mkLays k a)) = blL (laysC a) := by
  induction a generalizing k with
  | nil => rfl
  | cons x xs ih => simp only [mkLays, laysC_cons, blL_append, ih, LayA.bl_cs]; rfl
/-- the row with one layer marked -/
theorem mk_row (M post : List LayA) (x : LayA) (k : Nat) :
    (((vs (laysC (M ++ x :: post))).set (M.length * 5) (.int .i64 (k : Int))).set (M.length * 5 + 1) (.int .i64 ((k : Int) + 1))).set (M.length * 5 + 2) (.int .i64 ((k : Int) + 1 + 1)) = vs (laysC (M ++ mkLay k x :: post)) := by
  have hl : (vs (laysC M)).length = M.length * 5 := by rw [vs_length, laysC_length]
  rw [laysC_append, laysC_append, vs_append, vs_append, laysC_cons, laysC_cons, vs_append, vs_append]
  rw [List.set_append_right _ _ (by omega), hl, Nat.sub_self, List.set_append_right _ _ (by omega), hl, Nat.add_sub_cancel_left, List.set_append_right _ _ (by omega), hl, Nat.add_sub_cancel_left]
  simp only [LayA.vs_cs, LayA.cells, mkLay, marks_length, List.cons_append, List.set_cons_zero, List.set_cons_succ]
theorem dis5 {A B C D E : List Nat} (h : (A ++ (B ++ (C ++ (D ++ E)))).Nodup) :
    (∀ g ∈ B, g ∉ A) ∧ (∀ g ∈ C, g ∉ A) ∧ (∀ g ∈ D, g ∉ A) ∧ (∀ g ∈ E, g ∉ A) ∧ (∀ g ∈ B, g ∉ C) ∧ (∀ g ∈ D, g ∉ C) ∧ (∀ g ∈ E, g ∉ C) ∧ (∀ g ∈ B, g ∉ D) ∧ (∀ g ∈ C, g ∉ D) ∧ (∀ g ∈ E, g ∉ D) ∧ (∀ g ∈ A, g ∉ C) ∧ (∀ g ∈ A, g ∉ D) := by
  simp only [List.nodup_append, List.mem_append] at h
  obtain ⟨_, ⟨_, ⟨_, ⟨_, _, h5⟩, h4⟩, h3⟩, h2⟩ := h
  refine ⟨?_, ?_, ?_, ?_, ?_, ?_, ?_, ?_, ?_, ?_, ?_, ?_⟩
  · exact fun g h h' => h2 g h' g (.inl h) rfl
  · exact fun g h h' => h2 g h' g (.inr (.inl h)) rfl
  · exact fun g h h' => h2 g h' g (.inr (.inr (.inl h))) rfl
  · exact fun g h h' => h2 g h' g (.inr (.inr (.inr h))) rfl
  · exact fun g h h' => h3 g h g (.inl h') rfl
  · exact fun g h h' => h4 g h' g (.inl h) rfl
  · exact fun g h h' => h4 g h' g (.inr h) rfl
  · exact fun g h h' => h3 g h g (.inr (.inl h')) rfl
  · exact fun g h h' => h4 g h g (.inl h') rfl
  · exact fun g h h' => h5 g h' g h rfl
  · exact fun g h h' => h2 g h g (.inr (.inl h')) rfl
  · exact fun g h h' => h2 g h g (.inr (.inr (.inl h'))) rfl
/-- all blocks of a list of layers and its row -/
def layBl (gs : Option Addr) (ls : List LayA) : List Nat := (blk gs).toList ++ blL (laysC ls)
def MkRel (gs : Option Addr) (cap n k B : Nat) (ls : List LayA) (w : World) (kv iv : Value) (wr : World) : Prop :=
  ∃ (pre post : List LayA), ls = pre ++ post ∧ iv = .int .i64 (pre.length : Int) ∧ kv = .int .i64 ((k + cntLays pre : Nat) : Int) ∧ wr.ownsRow B 0 5 (.slice gs n cap) n (vs (laysC (mkLays k pre ++ post))) ∧
    OwnL wr B (laysC (mkLays k pre)) ∧ OwnL wr B (laysC post) ∧ GrownIn w wr (layBl gs ls)
theorem OwnF.inn {w w' : World} {B : Nat} {a : Option Addr} {cap : Nat} {ys : List Nat} {S : List Nat} (h : OwnF w B a cap ys) (hg : GrownIn w w' S) (hn : ∀ g ∈ (blk a).toList, g ∉ S) : OwnF w' B a cap ys :=
  ⟨ownsRow_in h.1 hg hn, h.2⟩
def HeldLRel (n k : Nat) (ls : List LayA) (w : World) (kv iv : Value) (wr : World) : Prop :=
  ∃ j : Nat, j ≤ n ∧ iv = .int .i64 j ∧ kv = .int .i64 ((k + cntLays (ls.take j) : Nat) : Int) ∧ w = wr
theorem mkLays_get {ls : List LayA} {k j : Nat} {x : LayA} (h : ls[j]? = some x) : (mkLays k ls)[j]? = some (mkLay (k + cntLays (ls.take j)) x) := by
  have hlt : j < ls.length := (List.getElem?_eq_some_iff.1 h).1
  have hsp : ls = ls.take j ++ x :: ls.drop (j + 1) := by
    have h1 := (List.take_append_drop j ls).symm
    rw [List.drop_eq_getElem_cons hlt] at h1
    rw [(List.getElem?_eq_some_iff.1 h).2] at h1
    exact h1
  have hl : (mkLays k (ls.take j)).length = j := by rw [mkLays_length]; simp; omega
  rw [hsp, mkLays_append, List.getElem?_append_right (by rw [hl]; omega), hl, Nat.sub_self]
  simp only [mkLays, List.getElem?_cons_zero]
  congr 2
  rw [← hsp]
theorem cntLays_take {ls : List LayA} {j : Nat} {x : LayA} (h : ls[j]? = some x) : cntLays (ls.take (j + 1)) = cntLays (ls.take j) + (3 + (x.p.ws.length + x.p.bs.length)) := by
  rw [List.take_add_one, h, cntLays_append]
  simp [cntLays, laySum, LayP.n]
theorem cntLays_le (ls : List LayA) (j : Nat) : cntLays (ls.take j) ≤ cntLays ls := by
  have h : ls = ls.take j ++ ls.drop j := (List.take_append_drop j ls).symm
  conv => rhs; rw [h, cntLays_append]
  omega
/-! models that functions return -/
/-- a model and ok -/
def RetM (b : Bool) (zs : List LayP) (w : World) (e : Ending) (w' : World) : Prop :=
  ∃ gs cap ys, e = .returned (.tuple #[.agg #[.slice gs (List.length ys) cap], .bool b]) ∧ OwnL w' w.heap.size [.sl 0 5 ys.length gs cap (laysC ys)] ∧ (blL [.sl 0 5 ys.length gs cap (laysC ys)]).Nodup ∧ ys.map (fun x => x.p.can) = zs ∧ Below w.heap.size w w'
theorem laySum_can (ys : List LayA) : laySum (ys.map fun x => x.p.can) = laySum (ys.map LayA.p) := by
  unfold laySum
  rw [List.map_map, List.map_map]
  congr 1
  refine List.map_congr_left fun x _ => ?_
  simp [LayP.n, LayP.can]
theorem retM_bound {ys : List LayA} {zs : List LayP} (h : ys.map (fun x => x.p.can) = zs) (hz : 3 * zs.length + laySum zs ≤ 1048576) : cntLays ys ≤ 1048576 ∧ laySum (ys.map LayA.p) ≤ 1048576 := by
  subst h
  rw [laySum_can, List.length_map] at hz
  unfold cntLays
  omega
theorem held_mod {w : World} {B : Nat} {gs : Option Addr} {cap k n : Nat} {ys : List LayA} (hl : ys.length = n) (h : OwnL w B [.sl 0 5 n gs cap (laysC (mkLays k ys))]) : LaysAt w gs n cap (mkLays k ys) :=
  laysAt_own (by rw [mkLays_length]; exact hl) h
/-! lists of floats, in these words -/
theorem c_markFl (a : Option Addr) (cap B k m : Nat) (ys : List Nat) (w : World) (h : OwnL w B [flC a cap ys]) (hm : k + ys.length = m) (hk : k ≤ 8388608) (hl : ys.length ≤ 1048576) :
    Calls Try.prog 36 #[.slice a ys.length cap, .int .i64 k] w fun e w' => e = .returned (.int .i64 (m : Int)) ∧ OwnL w' B [flC a cap (marks k ys.length)] ∧ GrownIn w w' (blL [flC a cap ys]) :=
  (c_markFloats' a cap B k m ys w (flL_own.1 h) hm hk hl).mono fun e w' ⟨he, ho, hg⟩ => ⟨he, flL_own.2 ho, by rw [show blL [flC a cap ys] = (blk a).toList by simp [blL, flC_bl]]; exact GrownIn.of_grown hg⟩
theorem held_fl {w : World} {B : Nat} {a : Option Addr} {cap k n : Nat} (h : OwnL w B [flC a cap (marks k n)]) : IsFloats .f32 w a n cap (marks k n) := (flL_own.1 h).held
end Go.Proofs.Ytdgoladbkaldkaa
