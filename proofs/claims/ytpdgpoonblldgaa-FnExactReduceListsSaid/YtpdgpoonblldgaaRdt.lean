/-
  ReduceLists: the model's sum in a tree. Conditions: the lists can be read, and can be reduced.
-/
import Derived.Test.YtpdgpoonblldgaaRdl
import Derived.Test.YtpdgpoonblldgaaRtv
import Derived.Deep.RegionLaw
namespace Go.Proofs.Ytpdgpoonblldgaa
open Go.RowKit Go.Deep Go.WideShapes Go.ChangeShapes
set_option linter.unusedVariables false
set_option linter.unusedSimpArgs false

theorem rd_reads {w1 : World} {v : Value} : Reads (w1.alloc (.cells #[v] 25)) (w1.heap.size + 1) 1 (some ⟨w1.heap.size, 0, none⟩) 1 [v] := by
  refine ⟨rfl, fun _ => ⟨_, rfl, by simp, fun j u hu => ?_⟩⟩
  rw [add_plain]
  have := (Blk.new w1 25 #[v]).cell (0 + j)
  rw [this, Nat.zero_add]
  simpa using hu
theorem rd_one (a : Option Addr) (n c : Nat) : ∀ u ∈ [Value.slice a n c], u.oneCell' = true := by intro u hu; simp at hu; subst hu; rfl
/-- a list that lay there before, or one whose block holds floats -/
def FlS (B : Nat) (w : World) (x : FlA) : Prop := IsFloats .f32 w x.a x.z.length x.c x.z ∧ (x.z.length = 0 ∨ ∃ b off, x.a = some ⟨b, off, none⟩ ∧ b < w.heap.size ∧ (b < B ∨ ∃ cs fr, w.heap[b]? = some (.cells cs 67 fr)))
theorem isFloats_block {w w' : World} {a : Option Addr} {n cap : Nat} {z : List Nat} (h : IsFloats .f32 w a n cap z) (hs : w.heap.size ≤ w'.heap.size) (hb : n = 0 ∨ ∀ b off, a = some ⟨b, off, none⟩ → w'.heap[b]? = w.heap[b]?) : IsFloats .f32 w' a n cap z := by
  obtain ⟨h1, h2, h3, h4, h5⟩ := h
  refine ⟨h1, h2, h3, h4, ?_⟩
  rcases h5 with h0 | ⟨b, off, e, hlt, hc⟩
  · exact .inl h0
  · rcases hb with h0 | hb
    · exact .inl h0
    · refine .inr ⟨b, off, e, Nat.lt_of_lt_of_le hlt hs, fun i hi => ?_⟩
      rw [← hc i hi]
      unfold World.cell?
      rw [hb b off e]
theorem FlS.grown {B g : Nat} {w w' : World} {x : FlA} (h : FlS B w x) (hg : w.grownBy w' (some g)) (hB : B ≤ g) (ht : ∃ cs fr, w.heap[g]? = some (.cells cs 25 fr)) : FlS B w' x := by
  obtain ⟨h1, h2⟩ := h
  have hne : ∀ b off, x.a = some ⟨b, off, none⟩ → x.z.length = 0 ∨ (w'.heap[b]? = w.heap[b]?) := fun b off e => by
    rcases h2 with h0 | ⟨b', off', e', hl, h2⟩
    · exact .inl h0
    · rw [e] at e'
      simp only [Option.some.injEq, Addr.mk.injEq] at e'
      obtain ⟨rfl, _, _⟩ := e'
      refine .inr (hg.block b hl (fun e => ?_))
      cases e
      rcases h2 with h2 | ⟨cs, fr, h2⟩
      · omega
      · obtain ⟨cs', fr', ht⟩ := ht
        rw [h2] at ht
        cases ht
  refine ⟨isFloats_block h1 hg.size ?_, ?_⟩
  · by_cases h0 : x.z.length = 0
    · exact .inl h0
    · exact .inr fun b off e => (hne b off e).resolve_left h0
  · rcases h2 with h0 | ⟨b, off, e, hl, h2⟩
    · exact .inl h0
    · rcases hne b off e with h0 | hq
      · exact .inl h0
      · refine .inr ⟨b, off, e, Nat.lt_of_lt_of_le hl hg.size, ?_⟩
        rcases h2 with h2 | ⟨cs, fr, h2⟩
        · exact .inl h2
        · exact .inr ⟨cs, fr, hq.trans h2⟩
theorem FlS.kept {B : Nat} {w w' : World} {x : FlA} (h : FlS B w x) (hb : Below w.heap.size w w') : FlS B w' x := by
  obtain ⟨h1, h2⟩ := h
  refine ⟨h1.kept hb, ?_⟩
  rcases h2 with h0 | ⟨b, off, e, hl, h2⟩
  · exact .inl h0
  · refine .inr ⟨b, off, e, Nat.lt_of_lt_of_le hl hb.size, ?_⟩
    rcases h2 with h2 | ⟨cs, fr, h2⟩
    · exact .inl h2
    · exact .inr ⟨cs, fr, (hb.block b hl).trans h2⟩
theorem flS_old {B : Nat} {w : World} {x : FlA} (h : IsFloats .f32 w x.a x.z.length x.c x.z) (hB : w.heap.size ≤ B) : FlS B w x := by
  refine ⟨h, ?_⟩
  rcases h.2.2.2.2 with h0 | ⟨b, off, e, hlt, _⟩
  · exact .inl h0
  · exact .inr ⟨b, off, e, hlt, .inl (by omega)⟩
theorem flS_own {B B' : Nat} {w : World} {a : Option Addr} {c : Nat} {ys : List Nat} (h : OwnF w B' a c ys) : FlS B w ⟨ys, a, c⟩ := by
  refine ⟨h.isFloats, ?_⟩
  rcases h.1.2 with ⟨hv, h0⟩ | ⟨g, cap, cur, hv, _, hg, _⟩
  · exact .inl h0
  · simp only [Value.slice.injEq] at hv
    obtain ⟨rfl, _, _⟩ := hv
    exact .inr ⟨g, 0, rfl, (Array.getElem?_eq_some_iff.1 hg).1, .inr ⟨cur, _, hg⟩⟩
theorem ss_of_row {w : World} {B : Nat} {q : Option Addr} {cp : Nat} {xs : List FlA} (ho : w.ownsRow B 25 1 (.slice q xs.length cp) xs.length (xs.map FlA.v)) (hf : ∀ x ∈ xs, IsFloats .f32 w x.a x.z.length x.c x.z) : SSAt w q xs.length cp xs := by
  have hcap : xs.length ≤ cp ∧ cp ≤ maxLen := by
    rcases ho.2 with ⟨hv, h0⟩ | ⟨g', c', cur, hv, _, _, h1, h2, _⟩
    · simp only [Value.slice.injEq] at hv; omega
    · simp only [Value.slice.injEq] at hv; omega
  refine ⟨rfl, hcap.1, hcap.2, hf, ?_⟩
  rcases ho.2 with ⟨hv, h0⟩ | ⟨g', c', cur, hv, _, hg, _⟩
  · exact .inl h0
  · simp only [Value.slice.injEq] at hv
    obtain ⟨rfl, _, rfl⟩ := hv
    refine .inr ⟨g', 0, rfl, (Array.getElem?_eq_some_iff.1 hg).1, fun i x hx => ?_⟩
    have hi := (List.getElem?_eq_some_iff.1 hx).1
    rw [Nat.zero_add, ho.cellAt i (by omega), List.getElem?_map, hx]
    rfl
/-- what a place has behind a round -/
def treeF (ls : List FlA) (p j : Nat) : Nat := lineV (((atV (ls.map FlA.z) p).drop (j * 2)).take 2)
theorem atV_at {ls : List FlA} {p i : Nat} {x : FlA} (h : ls[i]? = some x) : (atV (ls.map FlA.z) p)[i]? = some (canon .f32 (x.z.getD p 0)) := by
  unfold atV
  rw [List.getElem?_map, List.getElem?_map, h]
  rfl
theorem treeF_two {ls : List FlA} {p k : Nat} {x y : FlA} (hx : ls[k * 2]? = some x) (hy : ls[k * 2 + 1]? = some y) : treeF ls p k = cop .add .f32 (canon .f32 (x.z.getD p 0)) (canon .f32 (y.z.getD p 0)) := by
  have h1 := atV_at (p := p) hx
  have h2 := atV_at (p := p) hy
  unfold treeF
  obtain ⟨l1, e1⟩ := List.getElem?_eq_some_iff.1 h1
  obtain ⟨l2, e2⟩ := List.getElem?_eq_some_iff.1 h2
  rw [List.drop_eq_getElem_cons l1, e1, List.drop_eq_getElem_cons l2, e2]
  simp [lineV]
theorem treeF_one {ls : List FlA} {p k : Nat} {x : FlA} (hx : ls[k * 2]? = some x) (hn : ls.length = k * 2 + 1) : treeF ls p k = canon .f32 (x.z.getD p 0) := by
  have h1 := atV_at (p := p) hx
  unfold treeF
  obtain ⟨l1, e1⟩ := List.getElem?_eq_some_iff.1 h1
  rw [List.drop_eq_getElem_cons l1, e1, List.drop_of_length_le (by simp [atV]; omega)]
  simp [lineV]
theorem treeF_all (ls : List FlA) (p : Nat) : (List.range (chCnt ls.length 2)).map (treeF ls p) = pairV (atV (ls.map FlA.z) p) := by
  rw [pair_parts _ _ (Nat.le_refl _)]
  simp [atV, treeF]
def InnT (ls : List FlA) (n L : Nat) (w : World) (s i : Value) (wr : World) : Prop :=
  ∃ (k I : Nat) (q : Option Addr) (cp : Nat) (xs : List FlA), I = k * 2 ∧ I ≤ n + 1 ∧ i = .int .i64 (I : Int) ∧ s = .slice q xs.length cp ∧ xs.length = k ∧ wr.ownsRow w.heap.size 25 1 (.slice q xs.length cp) xs.length (xs.map FlA.v) ∧
    (∀ x ∈ xs, x.z.length = L ∧ FlS w.heap.size wr x) ∧ (∀ p, p < L → atV (xs.map FlA.z) p = (List.range k).map (treeF ls p)) ∧ Below w.heap.size w wr
def OutT (TV : Nat → Nat) (L : Nat) (w : World) (s : Value) (wr : World) : Prop :=
  ∃ (ls : List FlA) (g : Option Addr) (c : Nat), s = .slice g ls.length c ∧ SSAt wr g ls.length c ls ∧ (1 ≤ ls.length ∧ ls.length ≤ 8) ∧ (∀ x ∈ ls, x.z.length = L) ∧ (∀ p, p < L → treeV (atV (ls.map FlA.z) p) = TV p) ∧ Below w.heap.size w wr
def lenV' : Value → Nat
  | .slice _ n _ => n
  | _ => 0
/-- a round of the inner loop: one list more -/
theorem inn_next {ls : List FlA} {n L k I : Nat} {w wr w5 w' : World} {q a' : Option Addr} {cp c' : Nat} {xs : List FlA} {x : FlA} {tmp : Obj} (hI : I = k * 2) (hIn : I < n) (hk : xs.length = k)
    (ho : wr.ownsRow w.heap.size 25 1 (.slice q xs.length cp) xs.length (xs.map FlA.v)) (hx : ∀ x ∈ xs, x.z.length = L ∧ FlS w.heap.size wr x) (hp : ∀ p, p < L → atV (xs.map FlA.z) p = (List.range k).map (treeF ls p)) (hb : Below w.heap.size w wr)
    (hb5 : Below wr.heap.size wr w5) (hxx : x.z.length = L) (hxf : FlS w.heap.size w5 x) (hxp : ∀ p, p < L → canon .f32 (x.z.getD p 0) = treeF ls p k)
    (hown : w'.ownsRow w.heap.size 25 1 (.slice a' (xs.length + 1) c') (xs.length + 1) (xs.map FlA.v ++ [x.v])) (hg : (w5.alloc tmp).grownBy w' (Value.ownBlock (.slice q xs.length cp))) : InnT ls n L w (.slice a' (xs.length + 1) c') (.int .i64 ((I : Int) + 2)) w' := by
  have ba : Below w5.heap.size w5 (w5.alloc tmp) := (Below.refl _ _).alloc (Nat.le_refl _) _
  have b6 : Below wr.heap.size wr (w5.alloc tmp) := Below.next hb5 ba
  have hrow := row_kept ho b6
  have hkeep : ∀ y, FlS w.heap.size (w5.alloc tmp) y → FlS w.heap.size w' y := fun y hy => by
    rw [ownBlock_slice] at hg
    cases hq : blk q with
    | none =>
      rw [hq] at hg
      exact hy.kept ⟨hg.os, hg.tape, hg.output, hg.size, fun j hj => hg.block j hj (by simp)⟩
    | some g =>
      rw [hq] at hg
      refine hy.grown hg ?_ ?_
      · exact (ownsRow_lt hrow g (by simp [hq])).1
      · rcases hrow.2 with ⟨hv, _⟩ | ⟨g', cap, cur, hv, _, hgb, _⟩
        · simp only [Value.slice.injEq] at hv
          obtain ⟨rfl, _⟩ := hv
          simp [blk] at hq
        · simp only [Value.slice.injEq] at hv
          obtain ⟨rfl, _⟩ := hv
          simp [blk] at hq
          subst hq
          exact ⟨cur, _, hgb⟩
  refine ⟨k + 1, I + 2, a', c', xs ++ [x], by omega, by omega, by simp, by simp, by simp [hk], by simpa using hown, fun y hy => ?_, fun p hpL => ?_, ?_⟩
  · rcases List.mem_append.1 hy with h | h
    · exact ⟨(hx y h).1, hkeep y ((hx y h).2.kept b6)⟩
    · rw [List.mem_singleton.1 h]
      exact ⟨hxx, hkeep x (hxf.kept ba)⟩
  · have e := hp p hpL
    have e2 := hxp p hpL
    unfold atV at e ⊢
    rw [List.map_append, List.map_append, e, List.range_succ, List.map_append]
    simpa [List.getD] using e2
  · exact (hb.trans (b6.mono hb.size)).grown hg (Nat.le_trans hb.size b6.size) (fun g hq => (ownsRow_lt hrow g (by rw [ownBlock_slice] at hq; simp [hq])).1)
end Go.Proofs.Ytpdgpoonblldgaa
