/-
  Words for lists of lists of floats: reading, comparing, marking and looking again. Conditions: the cells can be read.
-/
import Derived.Test.YtkfpaehalfjhhaaCl
import Derived.Test.YtkfpaehalfjhhaaApp
namespace Go.Proofs.Ytkfpaehalfjhhaa
open Go.RowKit
set_option linter.unusedVariables false

structure FlA where
  z : List Nat
  a : Option Addr
  c : Nat
def FlA.cl (x : FlA) : Cl := flC x.a x.c x.z
def FlA.v (x : FlA) : Value := .slice x.a x.z.length x.c
def ssC (ls : List FlA) : List Cl := ls.map FlA.cl
def ssN (zs : List (List Nat)) : Nat := (zs.map List.length).sum
theorem ssC_length (ls : List FlA) : (ssC ls).length = ls.length := by simp [ssC]
theorem ssC_append (a b : List FlA) : ssC (a ++ b) = ssC a ++ ssC b := by simp [ssC]
theorem ssC_cons (x : FlA) (b : List FlA) : ssC (x :: b) = x.cl :: ssC b := rfl
theorem vs_ssC (ls : List FlA) : vs (ssC ls) = ls.map FlA.v := by simp [vs, ssC, FlA.cl, flC_v, FlA.v, Function.comp_def]
theorem ssC_own {w : World} {B : Nat} {ls : List FlA} : OwnL w B (ssC ls) ↔ ∀ x ∈ ls, OwnF w B x.a x.c x.z := by
  simp only [OwnL_iff, ssC, List.mem_map, FlA.cl]
  constructor
  · intro h x hx; exact flC_own.1 (h _ ⟨x, hx, rfl⟩)
  · rintro h _ ⟨x, hx, rfl⟩; exact flC_own.2 (h x hx)
theorem ssC_at {w : World} {ls : List FlA} : AtL w (ssC ls) ↔ ∀ x ∈ ls, IsFloats .f32 w x.a x.z.length x.c x.z := by
  simp only [AtL_iff, ssC, List.mem_map, FlA.cl]
  constructor
  · intro h x hx; exact flC_at.1 (h _ ⟨x, hx, rfl⟩)
  · rintro h _ ⟨x, hx, rfl⟩; exact flC_at.2 (h x hx)
theorem blL_cl (x : FlA) (b : List FlA) : blL (ssC (x :: b)) = (blk x.a).toList ++ blL (ssC b) := by simp only [ssC_cons, blL, FlA.cl, flC_bl]
def SSAt (w : World) (g : Option Addr) (n cap : Nat) (ls : List FlA) : Prop :=
  ls.length = n ∧ n ≤ cap ∧ cap ≤ maxLen ∧ (∀ x ∈ ls, IsFloats .f32 w x.a x.z.length x.c x.z) ∧ (n = 0 ∨ ∃ b off, g = some ⟨b, off, none⟩ ∧ b < w.heap.size ∧ ∀ i x, ls[i]? = some x → w.cell? ⟨b, off + i, none⟩ = some x.v)
theorem SSAt.kept {w w' : World} {g : Option Addr} {n cap : Nat} {ls : List FlA} (h : SSAt w g n cap ls) (hb : Below w.heap.size w w') : SSAt w' g n cap ls := by
  obtain ⟨h1, h2, h3, h4, h5⟩ := h
  refine ⟨h1, h2, h3, fun x hx => (h4 x hx).kept hb, ?_⟩
  rcases h5 with h0 | ⟨b, off, e, hlt, hc⟩
  · exact .inl h0
  · exact .inr ⟨b, off, e, Nat.lt_of_lt_of_le hlt hb.size, fun i x hx => by rw [hb.cell (p := ⟨b, off + i, none⟩) hlt]; exact hc i x hx⟩
theorem SSAt.one {w : World} {g : Option Addr} {n cap : Nat} {ls : List FlA} (h : SSAt w g n cap ls) {i : Nat} (hi : i < n) :
    ∃ (b off : Nat) (z : List Nat) (a : Option Addr) (c : Nat), g = some ⟨b, off, none⟩ ∧ b < w.heap.size ∧ ls[i]? = some ⟨z, a, c⟩ ∧ w.cell? ⟨b, off + i, none⟩ = some (.slice a z.length c) ∧ IsFloats .f32 w a z.length c z := by
  obtain ⟨h1, h2, h3, h4, h5⟩ := h
  have hx : ls[i]? = some ls[i] := List.getElem?_eq_getElem (by omega)
  obtain ⟨x, hx'⟩ : ∃ x, ls[i] = x := ⟨_, rfl⟩
  rw [hx'] at hx
  rcases h5 with h0 | ⟨b, off, e, hlt, hc⟩
  · omega
  · obtain ⟨z, a, c⟩ := x
    exact ⟨b, off, z, a, c, e, hlt, hx, hc i _ hx, h4 _ (List.mem_of_getElem? hx)⟩
theorem ssAt_own {w : World} {B : Nat} {t : TypeId} {g : Option Addr} {c : Nat} {ls : List FlA} (h : OwnL w B [.sl t 1 ls.length g c (ssC ls)]) : SSAt w g ls.length c ls := by
  have h1 := (OwnL.at _ h).1
  simp only [Cl.At, ssC_at, Nat.mul_one, vs_ssC] at h1
  obtain ⟨⟨h2, h3, _, h5⟩, h6⟩ := h1
  refine ⟨rfl, h2, h3, h6, ?_⟩
  rcases h5 with h0 | ⟨b, off, e, hlt, hc⟩
  · exact .inl h0
  · refine .inr ⟨b, off, e, hlt, fun i x hx => ?_⟩
    rw [hc i (List.getElem?_eq_some_iff.1 hx).1]
    simp [hx]

/-! marks -/
def mkSS (k : Nat) : List FlA → List FlA
  | [] => []
  | x :: xs => ⟨marks k x.z.length, x.a, x.c⟩ :: mkSS (k + x.z.length) xs
def cntSS (ls : List FlA) : Nat := (ls.map fun x => x.z.length).sum
theorem cntSS_cons (x : FlA) (xs : List FlA) : cntSS (x :: xs) = x.z.length + cntSS xs := by simp [cntSS]
theorem cntSS_append (a b : List FlA) : cntSS (a ++ b) = cntSS a + cntSS b := by simp [cntSS]
theorem mkSS_append (k : Nat) (a b : List FlA) : mkSS k (a ++ b) = mkSS k a ++ mkSS (k + cntSS a) b := by
  induction a generalizing k with
  | nil => simp [mkSS, cntSS]
  | cons x xs ih =>
    simp only [List.cons_append, mkSS, ih, cntSS_cons, Nat.add_assoc]
theorem mkSS_length (k : Nat) (a : List FlA) : (mkSS k a).length = a.length := by
  induction a generalizing k with
  | nil => rfl
  | cons x xs ih => simp [mkSS, ih]
theorem mkSS_v (k : Nat) (a : List FlA) : (mkSS k a).map FlA.v = a.map FlA.v := by
  induction a generalizing k with
  | nil => rfl
  | cons x xs ih => simp [mkSS, ih, FlA.v, marks_length]
theorem bl_mkSS (k : Nat) (a : List FlA) : blL (ssC (mkSS k a)) = blL (ssC a) := by
  induction a generalizing k with
  | nil => rfl
  | cons x xs ih => simp only [mkSS, blL_cl, ih]
theorem mkSS_get {k i : Nat} {ls : List FlA} {x : FlA} (h : ls[i]? = some x) : (mkSS k ls)[i]? = some ⟨marks (k + cntSS (ls.take i)) x.z.length, x.a, x.c⟩ := by
  induction ls generalizing k i with
  | nil => simp at h
  | cons y ys ih =>
    cases i with
    | zero => simp only [List.getElem?_cons_zero, Option.some.injEq] at h; subst h; simp [mkSS, cntSS]
    | succ i =>
      simp only [List.getElem?_cons_succ] at h
      simp only [mkSS, List.getElem?_cons_succ, ih h, List.take_succ_cons, cntSS_cons, Nat.add_assoc]
theorem cntSS_take {ls : List FlA} {i : Nat} {x : FlA} (h : ls[i]? = some x) : cntSS (ls.take (i + 1)) = cntSS (ls.take i) + x.z.length := by
  rw [List.take_add_one, h, cntSS_append]
  simp [cntSS]
theorem cntSS_le (ls : List FlA) (i : Nat) : cntSS (ls.take i) ≤ cntSS ls := by
  have h : ls = ls.take i ++ ls.drop i := (List.take_append_drop _ _).symm
  have h2 : cntSS ls = cntSS (ls.take i) + cntSS (ls.drop i) := by rw [← cntSS_append, ← h]
  omega
theorem dis_SS {A B C D : List Nat} (h : (A ++ (B ++ (C ++ D))).Nodup) : (∀ g ∈ C, g ∉ A) ∧ (∀ g ∈ C, g ∉ B) ∧ (∀ g ∈ C, g ∉ D) := by
  simp only [List.nodup_append, List.mem_append] at h
  obtain ⟨_, ⟨_, ⟨_, _, h3⟩, h2⟩, h1⟩ := h
  exact ⟨fun g h' h => h1 g h g (.inr (.inl h')) rfl, fun g h' h => h2 g h g (.inl h') rfl, fun g h' h => h3 g h' g h rfl⟩
def MkSSRel (gs : Option Addr) (cap n k B : Nat) (ls : List FlA) (w : World) (kv iv : Value) (wr : World) : Prop :=
  ∃ (pre post : List FlA), ls = pre ++ post ∧ iv = .int .i64 (pre.length : Int) ∧ kv = .int .i64 ((k + cntSS pre : Nat) : Int) ∧ wr.ownsRow B 22 1 (.slice gs n cap) n (ls.map FlA.v) ∧
    OwnL wr B (ssC (mkSS k pre)) ∧ OwnL wr B (ssC post) ∧ GrownIn w wr (blL (ssC ls))
/-- a list of lists and ok -/
def RetSS (b : Bool) (zs : List (List Nat)) (w : World) (e : Ending) (w' : World) : Prop :=
  ∃ gs cap ys, e = .returned (.tuple #[.slice gs (List.length ys) cap, .bool b]) ∧ OwnL w' w.heap.size [.sl 22 1 ys.length gs cap (ssC ys)] ∧ (blL [.sl 22 1 ys.length gs cap (ssC ys)]).Nodup ∧ ys.map (fun x => x.z.map (canon .f32)) = zs ∧ Below w.heap.size w w'
theorem retSS_no {w w' : World} (h : Below w.heap.size w w') : RetSS false [] w (.returned (.tuple #[.slice none 0 0, .bool false])) w' :=
  ⟨none, 0, [], rfl, by simp [OwnL, Cl.Own, ssC, vs, World.ownsRow_nil], by simp [blL, Cl.bl, ssC, blk], rfl, h⟩
end Go.Proofs.Ytkfpaehalfjhhaa
