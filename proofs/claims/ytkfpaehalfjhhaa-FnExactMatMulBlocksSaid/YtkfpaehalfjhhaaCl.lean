/-
  Cells with what their slices lead to: reading them, owning them, keeping them over other writes, marking them. Conditions: none.
-/
import Derived.Test.YtkfpaehalfjhhaaTens
namespace Go.Proofs.Ytkfpaehalfjhhaa
open Go.RowKit

/-- a cell, with all that it leads to -/
inductive Cl where
  | int (n : Int)
  | f32 (b : Nat)
  | bool (b : Bool)
  | sl (e : TypeId) (sz n : Nat) (a : Option Addr) (cap : Nat) (xs : List Cl)

def Cl.v : Cl → Value
  | .int n => .int .i64 n
  | .f32 b => .float .f32 b
  | .bool b => .bool b
  | .sl _ _ n a cap _ => .slice a n cap
def vs (l : List Cl) : List Value := l.map Cl.v
theorem vs_length (l : List Cl) : (vs l).length = l.length := by simp [vs]
theorem vs_append (l m : List Cl) : vs (l ++ m) = vs l ++ vs m := by simp [vs]

mutual
/-- the cell can be read, with all that it leads to -/
def Cl.At (w : World) : Cl → Prop
  | .int _ => True
  | .f32 b => b < 2 ^ 32
  | .bool _ => True
  | .sl _ sz n a cap xs => (n ≤ cap ∧ cap ≤ maxLen ∧ xs.length = n * sz ∧ (n = 0 ∨ ∃ b off, a = some ⟨b, off, none⟩ ∧ b < w.heap.size ∧ ∀ i, i < n * sz → w.cell? ⟨b, off + i, none⟩ = (vs xs)[i]?)) ∧ AtL w xs
def AtL (w : World) : List Cl → Prop
  | [] => True
  | x :: xs => x.At w ∧ AtL w xs
end
mutual
/-- the call made all that the cell leads to -/
def Cl.Own (w : World) (B : Nat) : Cl → Prop
  | .int _ => True
  | .f32 b => b < 2 ^ 32
  | .bool _ => True
  | .sl e sz n a cap xs => w.ownsRow B e sz (.slice a n cap) n (vs xs) ∧ OwnL w B xs
def OwnL (w : World) (B : Nat) : List Cl → Prop
  | [] => True
  | x :: xs => x.Own w B ∧ OwnL w B xs
end
mutual
/-- the blocks -/
def Cl.bl : Cl → List Nat
  | .int _ => []
  | .f32 _ => []
  | .bool _ => []
  | .sl _ _ _ a _ xs => (blk a).toList ++ blL xs
def blL : List Cl → List Nat
  | [] => []
  | x :: xs => x.bl ++ blL xs
end
mutual
/-- how many cells are marked -/
def Cl.cnt : Cl → Nat
  | .int _ => 1
  | .f32 _ => 1
  | .bool _ => 1
  | .sl _ _ _ _ _ xs => cntL xs
def cntL : List Cl → Nat
  | [] => 0
  | x :: xs => x.cnt + cntL xs
end
mutual
/-- the marked cell, as an element of a slice -/
def Cl.mk (k : Nat) : Cl → Cl
  | .int _ => .int k
  | .f32 _ => .f32 (floatOfInt .f32 k)
  | .bool b => .bool b
  | .sl e sz n a cap xs => .sl e sz n a cap (mkL k xs)
def mkL (k : Nat) : List Cl → List Cl
  | [] => []
  | x :: xs => x.mk k :: mkL (k + x.cnt) xs
end
mutual
/-- what it says: no addresses, and one pattern for all not-a-numbers -/
def Cl.pure : Cl → Cl
  | .int n => .int n
  | .f32 b => .f32 (canon .f32 b)
  | .bool b => .bool b
  | .sl e sz n _ _ xs => .sl e sz n none 0 (pureL xs)
def pureL : List Cl → List Cl
  | [] => []
  | x :: xs => x.pure :: pureL xs
end
theorem pureL_map (l : List Cl) : pureL l = l.map Cl.pure := by
  induction l with
  | nil => rfl
  | cons x xs ih => simp [pureL, ih]
theorem AtL_iff {w : World} {l : List Cl} : AtL w l ↔ ∀ x ∈ l, x.At w := by
  induction l with
  | nil => simp [AtL]
  | cons x xs ih => simp [AtL, ih]
theorem OwnL_iff {w : World} {B : Nat} {l : List Cl} : OwnL w B l ↔ ∀ x ∈ l, x.Own w B := by
  induction l with
  | nil => simp [OwnL]
  | cons x xs ih => simp [OwnL, ih]
theorem AtL_append {w : World} {l m : List Cl} : AtL w (l ++ m) ↔ AtL w l ∧ AtL w m := by
  induction l with
  | nil => simp [AtL]
  | cons x xs ih => simp [AtL, ih, and_assoc]
theorem OwnL_append {w : World} {B : Nat} {l m : List Cl} : OwnL w B (l ++ m) ↔ OwnL w B l ∧ OwnL w B m := by
  induction l with
  | nil => simp [OwnL]
  | cons x xs ih => simp [OwnL, ih, and_assoc]
theorem blL_append (l m : List Cl) : blL (l ++ m) = blL l ++ blL m := by
  induction l with
  | nil => simp [blL]
  | cons x xs ih => simp [blL, ih]
theorem cntL_append (l m : List Cl) : cntL (l ++ m) = cntL l + cntL m := by
  induction l with
  | nil => simp [cntL]
  | cons x xs ih => simp [cntL, ih, Nat.add_assoc]
theorem mkL_append (k : Nat) (l m : List Cl) : mkL k (l ++ m) = mkL k l ++ mkL (k + cntL l) m := by
  induction l generalizing k with
  | nil => simp [mkL, cntL]
  | cons x xs ih => simp [mkL, cntL, ih, Nat.add_assoc]
theorem mkL_length (k : Nat) (l : List Cl) : (mkL k l).length = l.length := by
  induction l generalizing k with
  | nil => rfl
  | cons x xs ih => simp [mkL, ih]

/-- the world changed in some blocks alone, and grew -/
structure GrownIn (w w' : World) (S : List Nat) : Prop where
  os : w'.os = w.os
  tape : w'.tape = w.tape
  output : w'.output = w.output
  size : w.heap.size ≤ w'.heap.size
  block : ∀ k, k < w.heap.size → k ∉ S → w'.heap[k]? = w.heap[k]?
theorem GrownIn.refl (w : World) (S : List Nat) : GrownIn w w S := ⟨rfl, rfl, rfl, Nat.le_refl _, fun _ _ _ => rfl⟩
theorem GrownIn.trans {w w1 w2 : World} {S : List Nat} (h : GrownIn w w1 S) (k : GrownIn w1 w2 S) : GrownIn w w2 S :=
  ⟨k.os.trans h.os, k.tape.trans h.tape, k.output.trans h.output, Nat.le_trans h.size k.size, fun i hi hn => (k.block i (Nat.lt_of_lt_of_le hi h.size) hn).trans (h.block i hi hn)⟩
theorem GrownIn.mono {w w' : World} {S T : List Nat} (h : GrownIn w w' S) (hs : ∀ k ∈ S, k ∈ T) : GrownIn w w' T := ⟨h.os, h.tape, h.output, h.size, fun k hk hn => h.block k hk (fun e => hn (hs k e))⟩
theorem GrownIn.of_below {w w' : World} (h : Below w.heap.size w w') (S : List Nat) : GrownIn w w' S := ⟨h.os, h.tape, h.output, h.size, fun k hk _ => h.block k hk⟩
theorem GrownIn.of_grown {w w' : World} {a : Option Addr} (h : w.grownBy w' (blk a)) : GrownIn w w' (blk a).toList :=
  ⟨h.os, h.tape, h.output, h.size, fun k hk hn => h.block k hk (fun e => hn (by rw [← e]; simp))⟩
theorem GrownIn.below {w w' : World} {S : List Nat} {B : Nat} (h : GrownIn w w' S) (hB : B ≤ w.heap.size) (hs : ∀ k ∈ S, B ≤ k) : Below B w w' :=
  ⟨h.os, h.tape, h.output, h.size, fun k hk => h.block k (Nat.lt_of_lt_of_le hk hB) (fun e => by have := hs k e; omega)⟩
theorem GrownIn.below' {W w w' : World} {S : List Nat} (h : GrownIn w w' S) (hl : Below W.heap.size W w) (hs : ∀ k ∈ S, W.heap.size ≤ k) : Below W.heap.size W w' := hl.trans (h.below hl.size hs)
theorem GrownIn.setCell {w w' : World} {S : List Nat} (h : GrownIn w w' S) {p : Addr} (hp : p.block ∈ S) (u : Value) : GrownIn w (w'.setCell p u) S :=
  ⟨h.os, h.tape, h.output, by simpa using h.size, fun k hk hn => (Below.heap_setCell w' p u k (fun e => hn (e ▸ hp))).trans (h.block k hk hn)⟩

theorem ownsRow_in {w w' : World} {B : Nat} {e : TypeId} {sz n : Nat} {a : Option Addr} {cap : Nat} {xs : List Value} {S : List Nat} (h : w.ownsRow B e sz (.slice a n cap) n xs) (hg : GrownIn w w' S) (hne : ∀ g ∈ (blk a).toList, g ∉ S) : w'.ownsRow B e sz (.slice a n cap) n xs := by
  refine ⟨h.1, ?_⟩
  rcases h.2 with hn | ⟨g, c, cur, hv, hb, hgg, rest⟩
  · exact .inl hn
  · refine .inr ⟨g, c, cur, hv, hb, ?_, rest⟩
    simp only [Value.slice.injEq] at hv
    rw [hg.block g (Array.getElem?_eq_some_iff.1 hgg).1 (hne g (by rw [hv.1]; simp [blk]))]
    exact hgg
theorem ownsRow_lt {w : World} {B : Nat} {e : TypeId} {sz n : Nat} {a : Option Addr} {cap : Nat} {xs : List Value} (h : w.ownsRow B e sz (.slice a n cap) n xs) : ∀ g ∈ (blk a).toList, B ≤ g ∧ g < w.heap.size := by
  intro g hg
  refine h.lt g ?_
  cases a with
  | none => simp [blk] at hg
  | some p => simpa [blk, Value.ownBlock, eq_comm] using hg

mutual
theorem Cl.Own.apart {w w' : World} {B : Nat} {S : List Nat} (hg : GrownIn w w' S) : (c : Cl) → c.Own w B → (∀ g ∈ c.bl, g ∉ S) → c.Own w' B
  | .int _, _, _ => by simp [Cl.Own]
  | .f32 b, h, _ => by simpa [Cl.Own] using h
  | .bool _, _, _ => by simp [Cl.Own]
  | .sl e sz n a cap xs, h, hn => by
    simp only [Cl.Own] at h ⊢
    simp only [Cl.bl, List.mem_append] at hn
    exact ⟨ownsRow_in h.1 hg (fun g hh => hn g (.inl hh)), OwnL.apart hg xs h.2 (fun g hh => hn g (.inr hh))⟩
theorem OwnL.apart {w w' : World} {B : Nat} {S : List Nat} (hg : GrownIn w w' S) : (l : List Cl) → OwnL w B l → (∀ g ∈ blL l, g ∉ S) → OwnL w' B l
  | [], _, _ => by simp [OwnL]
  | x :: xs, h, hn => by
    simp only [OwnL] at h ⊢
    simp only [blL, List.mem_append] at hn
    exact ⟨Cl.Own.apart hg x h.1 (fun g hh => hn g (.inl hh)), OwnL.apart hg xs h.2 (fun g hh => hn g (.inr hh))⟩
end
theorem OwnL.kept {w w' : World} {B : Nat} {l : List Cl} (h : OwnL w B l) (hb : Below w.heap.size w w') : OwnL w' B l := OwnL.apart (GrownIn.of_below hb []) l h (fun _ _ h => by cases h)
mutual
theorem Cl.Own.lt {w : World} {B : Nat} : (c : Cl) → c.Own w B → ∀ g ∈ c.bl, B ≤ g ∧ g < w.heap.size
  | .int _, _ => by simp [Cl.bl]
  | .f32 b, h => by simp [Cl.bl]
  | .bool _, _ => by simp [Cl.bl]
  | .sl e sz n a cap xs, h => by
    simp only [Cl.Own] at h
    intro g hg
    simp only [Cl.bl, List.mem_append] at hg
    rcases hg with hg | hg
    · exact ownsRow_lt h.1 g hg
    · exact OwnL.lt xs h.2 g hg
theorem OwnL.lt {w : World} {B : Nat} : (l : List Cl) → OwnL w B l → ∀ g ∈ blL l, B ≤ g ∧ g < w.heap.size
  | [], _ => by simp [blL]
  | x :: xs, h => by
    simp only [OwnL] at h
    intro g hg
    simp only [blL, List.mem_append] at hg
    rcases hg with hg | hg
    · exact Cl.Own.lt x h.1 g hg
    · exact OwnL.lt xs h.2 g hg
end
theorem OwnL.far {w : World} {B : Nat} {l : List Cl} (h : OwnL w B l) {p : Addr} (hp : p.block < B) (u : Value) : OwnL (w.setCell p u) B l := by
  refine OwnL.apart ((GrownIn.refl w [p.block]).setCell (p := p) (by simp) u) l h (fun g hg hm => ?_)
  have := (OwnL.lt l h g hg)
  simp only [List.mem_singleton] at hm
  omega
mutual
theorem Cl.Own.base {w : World} {B B' : Nat} (hB : B' ≤ B) : (c : Cl) → c.Own w B → c.Own w B'
  | .int _, _ => by simp [Cl.Own]
  | .f32 b, h => by simpa [Cl.Own] using h
  | .bool _, _ => by simp [Cl.Own]
  | .sl e sz n a cap xs, h => by
    simp only [Cl.Own] at h ⊢
    refine ⟨⟨h.1.1, ?_⟩, OwnL.base hB xs h.2⟩
    rcases h.1.2 with h' | ⟨g, c, cur, hv, hb, r⟩
    · exact .inl h'
    · exact .inr ⟨g, c, cur, hv, by omega, r⟩
theorem OwnL.base {w : World} {B B' : Nat} (hB : B' ≤ B) : (l : List Cl) → OwnL w B l → OwnL w B' l
  | [], _ => by simp [OwnL]
  | x :: xs, h => by
    simp only [OwnL] at h ⊢
    exact ⟨Cl.Own.base hB x h.1, OwnL.base hB xs h.2⟩
end
mutual
theorem Cl.Own.at {w : World} {B : Nat} : (c : Cl) → c.Own w B → c.At w
  | .int _, _ => by simp [Cl.At]
  | .f32 b, h => by simpa [Cl.At, Cl.Own] using h
  | .bool _, _ => by simp [Cl.At]
  | .sl e sz n a cap xs, h => by
    simp only [Cl.Own] at h
    simp only [Cl.At]
    obtain ⟨⟨h1, h2⟩, h3⟩ := h
    have h1' := h1
    rw [vs_length] at h1'
    refine ⟨?_, OwnL.at xs h3⟩
    rcases h2 with ⟨hv, h0⟩ | ⟨g, c, cur, hv, hb, hg, r1, r2, r3, r4⟩
    · simp only [Value.slice.injEq] at hv
      exact ⟨by omega, by omega, h1', .inl h0⟩
    · simp only [Value.slice.injEq] at hv
      obtain ⟨rfl, _, rfl⟩ := hv
      refine ⟨r1, r2, h1', .inr ⟨g, 0, rfl, (Array.getElem?_eq_some_iff.1 hg).1, fun i hi => ?_⟩⟩
      rw [Nat.zero_add]
      exact World.ownsRow.cellAt (base := B) ⟨h1, .inr ⟨g, cap, cur, rfl, hb, hg, r1, r2, r3, r4⟩⟩ i hi
theorem OwnL.at {w : World} {B : Nat} : (l : List Cl) → OwnL w B l → AtL w l
  | [], _ => by simp [AtL]
  | x :: xs, h => by
    simp only [OwnL] at h
    simp only [AtL]
    exact ⟨Cl.Own.at x h.1, OwnL.at xs h.2⟩
end
mutual
theorem Cl.At.kept {w w' : World} (hb : Below w.heap.size w w') : (c : Cl) → c.At w → c.At w'
  | .int _, _ => by simp [Cl.At]
  | .f32 b, h => by simpa [Cl.At] using h
  | .bool _, _ => by simp [Cl.At]
  | .sl e sz n a cap xs, h => by
    simp only [Cl.At] at h ⊢
    obtain ⟨⟨h1, h2, h3, h4⟩, h5⟩ := h
    refine ⟨⟨h1, h2, h3, ?_⟩, AtL.kept hb xs h5⟩
    rcases h4 with h0 | ⟨b, off, e, hlt, hc⟩
    · exact .inl h0
    · exact .inr ⟨b, off, e, Nat.lt_of_lt_of_le hlt hb.size, fun i hi => by rw [hb.cell (p := ⟨b, off + i, none⟩) hlt]; exact hc i hi⟩
theorem AtL.kept {w w' : World} (hb : Below w.heap.size w w') : (l : List Cl) → AtL w l → AtL w' l
  | [], _ => by simp [AtL]
  | x :: xs, h => by
    simp only [AtL] at h ⊢
    exact ⟨Cl.At.kept hb x h.1, AtL.kept hb xs h.2⟩
end
theorem AtL.kept' {w w' : World} {l : List Cl} (h : AtL w l) (hb : Below w.heap.size w w') : AtL w' l := AtL.kept hb l h
mutual
theorem Cl.bl_mk (k : Nat) : (c : Cl) → (c.mk k).bl = c.bl
  | .int _ => rfl
  | .f32 _ => rfl
  | .bool _ => rfl
  | .sl e sz n a cap xs => by simp only [Cl.mk, Cl.bl, blL_mk k xs]
theorem blL_mk (k : Nat) : (l : List Cl) → blL (mkL k l) = blL l
  | [] => rfl
  | x :: xs => by simp only [mkL, blL, Cl.bl_mk k x, blL_mk (k + x.cnt) xs]
end

theorem take_set_succ {α : Type} (l : List α) (j : Nat) (v : α) (h : j < l.length) : (l.set j v).take (j + 1) = l.take j ++ [v] := by
  rw [List.take_add_one, List.take_set]
  rw [List.set_eq_of_length_le (by simp; omega)]
  simp [h]
theorem apart_new {wA w' : World} {B : Nat} {l m : List Cl} (h : OwnL wA B l) (h' : OwnL w' wA.heap.size m) : ∀ g ∈ blL l, g ∉ blL m := by
  intro g h1 h2
  have := (OwnL.lt l h g h1).2
  have := (OwnL.lt m h' g h2).1
  omega
theorem apart_symm {l m : List Cl} (h : ∀ g ∈ blL l, g ∉ blL m) : ∀ g ∈ blL m, g ∉ blL l := fun g h1 h2 => h g h2 h1
theorem apart_box {wA w' : World} {ad : Nat} {t : TypeId} {cs : Array Value} {m : List Cl} (h : Blk wA ad t cs) (h' : OwnL w' wA.heap.size m) : ad ∉ blL m := by
  intro h2
  have := h.lt
  have := (OwnL.lt m h' ad h2).1
  omega
theorem apart_next {w : World} {B : Nat} {l : List Cl} (h : OwnL w B l) : w.heap.size ∉ blL l := by
  intro h2
  have := (OwnL.lt l h _ h2).2
  omega
theorem Blk.inn {w w' : World} {g : Nat} {t : TypeId} {cs : Array Value} {S : List Nat} (h : Blk w g t cs) (hg : GrownIn w w' S) (hn : g ∉ S) : Blk w' g t cs := (hg.block g h.lt hn).trans h

theorem nodup1 (a : Option Nat) : a.toList.Nodup := by cases a <;> simp
theorem nodup2 (a b : Option Nat) (h : ∀ g, a = some g → b ≠ some g) : (a.toList ++ b.toList).Nodup := by
  cases a <;> cases b <;> simp_all [eq_comm]
theorem nodup3 (a b c : Option Nat) (h : ∀ g, a = some g → b ≠ some g) (h' : ∀ g, a = some g → c ≠ some g) (h'' : ∀ g, b = some g → c ≠ some g) : (a.toList ++ b.toList ++ c.toList).Nodup := by
  cases a <;> cases b <;> cases c <;> simp_all [eq_comm]

/-! slices of floats -/
def flC (a : Option Addr) (cap : Nat) (ys : List Nat) : Cl := .sl 46 1 ys.length a cap (ys.map Cl.f32)
theorem vs_f32 (ys : List Nat) : vs (ys.map Cl.f32) = ys.map (Value.float .f32) := by simp [vs, Function.comp_def, Cl.v]
theorem blL_f32 (ys : List Nat) : blL (ys.map Cl.f32) = [] := by
  induction ys with
  | nil => rfl
  | cons y ys ih => simp [blL, Cl.bl, ih]
theorem cntL_f32 (ys : List Nat) : cntL (ys.map Cl.f32) = ys.length := by
  induction ys with
  | nil => rfl
  | cons y ys ih => simp [cntL, Cl.cnt, ih]; omega
theorem AtL_f32 {w : World} {ys : List Nat} : AtL w (ys.map Cl.f32) ↔ ∀ y ∈ ys, y < 2 ^ 32 := by simp [AtL_iff, Cl.At]
theorem OwnL_f32 {w : World} {B : Nat} {ys : List Nat} : OwnL w B (ys.map Cl.f32) ↔ ∀ y ∈ ys, y < 2 ^ 32 := by simp [OwnL_iff, Cl.Own]
theorem flC_bl (a : Option Addr) (cap : Nat) (ys : List Nat) : (flC a cap ys).bl = (blk a).toList := by simp [flC, Cl.bl, blL_f32]
theorem flC_v (a : Option Addr) (cap : Nat) (ys : List Nat) : (flC a cap ys).v = .slice a ys.length cap := rfl
theorem flC_cnt (a : Option Addr) (cap : Nat) (ys : List Nat) : (flC a cap ys).cnt = ys.length := by simp [flC, Cl.cnt, cntL_f32]
theorem flC_at {w : World} {a : Option Addr} {cap : Nat} {ys : List Nat} : (flC a cap ys).At w ↔ IsFloats .f32 w a ys.length cap ys := by
  unfold flC
  simp only [Cl.At, AtL_f32, IsFloats, Nat.mul_one, List.length_map, vs_f32]
  constructor
  · rintro ⟨⟨h1, h2, h3, h4⟩, h5⟩
    refine ⟨h1, h2, by simp, h5, ?_⟩
    rcases h4 with h0 | ⟨b, off, e, hlt, hc⟩
    · exact .inl h0
    · exact .inr ⟨b, off, e, hlt, fun i hi => by rw [hc i hi]; simp [List.getD, hi]⟩
  · rintro ⟨h1, h2, h3, h5, h4⟩
    refine ⟨⟨h1, h2, by simp, ?_⟩, h5⟩
    rcases h4 with h0 | ⟨b, off, e, hlt, hc⟩
    · exact .inl h0
    · exact .inr ⟨b, off, e, hlt, fun i hi => by rw [hc i hi]; simp [List.getD, hi]⟩
theorem flC_own {w : World} {B : Nat} {a : Option Addr} {cap : Nat} {ys : List Nat} : (flC a cap ys).Own w B ↔ OwnF w B a cap ys := by
  unfold flC
  simp only [Cl.Own, OwnL_f32, OwnF, vs_f32]
theorem flC_pure (a : Option Addr) (cap : Nat) (ys : List Nat) : (flC a cap ys).pure = .sl 46 1 ys.length none 0 ((ys.map (canon .f32)).map Cl.f32) := by
  simp [flC, Cl.pure, pureL_map, Function.comp_def]
theorem marks_cons (k n : Nat) : marks k (n + 1) = floatOfInt .f32 (k : Int) :: marks (k + 1) n := by
  unfold marks
  rw [List.range_succ_eq_map, List.map_cons, List.map_map]
  have h : ∀ i : Nat, floatOfInt .f32 ((k : Int) + ((i + 1 : Nat) : Int)) = floatOfInt .f32 (((k + 1 : Nat) : Int) + (i : Int)) := fun i => by
    congr 1
    omega
  simp only [Function.comp_def, Nat.succ_eq_add_one, h]
  simp
theorem mkL_f32 (k : Nat) (ys : List Nat) : mkL k (ys.map Cl.f32) = (marks k ys.length).map Cl.f32 := by
  induction ys generalizing k with
  | nil => rfl
  | cons y ys ih => simp only [List.map_cons, mkL, Cl.mk, Cl.cnt, ih, List.length_cons, marks_cons]
theorem flC_mk (k : Nat) (a : Option Addr) (cap : Nat) (ys : List Nat) : (flC a cap ys).mk k = flC a cap (marks k ys.length) := by
  simp only [flC, Cl.mk, mkL_f32, marks_length]
theorem flL_at {w : World} {a : Option Addr} {cap : Nat} {ys : List Nat} : AtL w [flC a cap ys] ↔ IsFloats .f32 w a ys.length cap ys := by simp only [AtL, flC_at, and_true]
theorem flL_own {w : World} {B : Nat} {a : Option Addr} {cap : Nat} {ys : List Nat} : OwnL w B [flC a cap ys] ↔ OwnF w B a cap ys := by simp only [OwnL, flC_own, and_true]
/-- a number and ok -/
def RetNb (x : Int) (b : Bool) (w : World) (e : Ending) (w' : World) : Prop := e = .returned (.tuple #[.int .i64 x, .bool b]) ∧ Below w.heap.size w w'
theorem tb1 {w : World} {g : Nat} {t : TypeId} {v0 : Value} (h : Blk w g t #[v0]) : w.cell? ⟨g, 0, none⟩ = some v0 ∧ g < w.heap.size := ⟨h.cell 0, h.lt⟩
theorem tb3 {w : World} {g : Nat} {t : TypeId} {v0 v1 v2 : Value} (h : Blk w g t #[v0, v1, v2]) : w.cell? ⟨g, 0, none⟩ = some v0 ∧ w.cell? ⟨g, 1, none⟩ = some v1 ∧ w.cell? ⟨g, 2, none⟩ = some v2 ∧ g < w.heap.size := ⟨h.cell 0, h.cell 1, h.cell 2, h.lt⟩
theorem tb5 {w : World} {g : Nat} {t : TypeId} {v0 v1 v2 v3 v4 : Value} (h : Blk w g t #[v0, v1, v2, v3, v4]) : w.cell? ⟨g, 0, none⟩ = some v0 ∧ w.cell? ⟨g, 1, none⟩ = some v1 ∧ w.cell? ⟨g, 2, none⟩ = some v2 ∧ w.cell? ⟨g, 3, none⟩ = some v3 ∧ w.cell? ⟨g, 4, none⟩ = some v4 ∧ g < w.heap.size :=
  ⟨h.cell 0, h.cell 1, h.cell 2, h.cell 3, h.cell 4, h.lt⟩
end Go.Proofs.Ytkfpaehalfjhhaa
