/-
  Words for tensors by value, and what the law's own helpers do: copies, sizes, comparing, marking and looking again. Conditions: the elements can be read.
-/
import Derived.Test.YtpfbhckmpkiijaaDoorEqf
import Derived.Laws.OwnMore
namespace Go.Proofs.YtpfbhckmpkiijaaDoor
open Go.RowKit

/-- a row of floats that the call made -/
def OwnF (w : World) (B : Nat) (a : Option Addr) (cap : Nat) (ys : List Nat) : Prop :=
  w.ownsRow B 34 1 (.slice a ys.length cap) ys.length (ys.map (Value.float .f32)) ∧ (∀ y ∈ ys, y < 2 ^ 32)

theorem OwnF.cap_ok {w : World} {B : Nat} {a : Option Addr} {cap : Nat} {ys : List Nat} (h : OwnF w B a cap ys) : ys.length ≤ cap ∧ cap ≤ maxLen := by
  rcases h.1.2 with ⟨hv, h0⟩ | ⟨g, c, cur, hv, _, _, h1, h2, _⟩
  · simp only [Value.slice.injEq] at hv
    omega
  · simp only [Value.slice.injEq] at hv
    omega
theorem OwnF.isFloats {w : World} {B : Nat} {a : Option Addr} {cap : Nat} {ys : List Nat} (h : OwnF w B a cap ys) : IsFloats .f32 w a ys.length cap ys := by
  refine ⟨h.cap_ok.1, h.cap_ok.2, rfl, h.2, ?_⟩
  rcases h.1.2 with ⟨hv, h0⟩ | ⟨g, c, cur, hv, _, hg, h1, h2, h3, h4⟩
  · exact .inl h0
  · simp only [Value.slice.injEq] at hv
    obtain ⟨rfl, _, rfl⟩ := hv
    refine .inr ⟨g, 0, rfl, (Array.getElem?_eq_some_iff.1 hg).1, fun i hi => ?_⟩
    rw [Nat.zero_add, h.1.cellAt i (by omega)]
    simp [List.getD, hi]
theorem OwnF.kept {w w' : World} {B : Nat} {a : Option Addr} {cap : Nat} {ys : List Nat} (h : OwnF w B a cap ys) (hb : Below w.heap.size w w') : OwnF w' B a cap ys :=
  ⟨h.1.kept (row := none) ⟨hb.os, hb.tape, hb.output, hb.size, fun j hj _ => hb.block j hj⟩ (by cases hv : Value.ownBlock (.slice a ys.length cap) <;> simp), h.2⟩
theorem OwnF.drewN {w : World} {B : Nat} {a : Option Addr} {cap : Nat} {ys : List Nat} (h : OwnF w B a cap ys) (n : Nat) : OwnF (w.drewN n) B a cap ys := h.kept (below_drewN (Below.refl _ _) n)
theorem OwnF.base {w : World} {B B' : Nat} {a : Option Addr} {cap : Nat} {ys : List Nat} (h : OwnF w B a cap ys) (hb : B' ≤ B) : OwnF w B' a cap ys := by
  refine ⟨⟨h.1.1, ?_⟩, h.2⟩
  rcases h.1.2 with h' | ⟨g, c, cur, hv, hB, r⟩
  · exact .inl h'
  · exact .inr ⟨g, c, cur, hv, by omega, r⟩
/-- a block of a slice -/
def blk (a : Option Addr) : Option Nat := a.map (·.block)
theorem OwnF.lt {w : World} {B : Nat} {a : Option Addr} {cap : Nat} {ys : List Nat} (h : OwnF w B a cap ys) : ∀ g, blk a = some g → B ≤ g ∧ g < w.heap.size := by
  intro g hg
  refine h.1.lt g ?_
  cases a with
  | none => cases hg
  | some p => simpa [blk, Value.ownBlock] using hg
theorem ownBlock_slice (a : Option Addr) (n c : Nat) : Value.ownBlock (.slice a n c) = blk a := by cases a <;> rfl
theorem OwnF.apart {w w' : World} {B : Nat} {a b : Option Addr} {cap : Nat} {ys : List Nat} (h : OwnF w B a cap ys) (hg : w.grownBy w' (blk b)) (hne : ∀ g, blk a = some g → blk b ≠ some g) : OwnF w' B a cap ys := by
  refine ⟨h.1.kept hg ?_, h.2⟩
  rw [ownBlock_slice]
  cases ha : blk a with
  | none => exact .inl rfl
  | some g => exact .inr (fun e => hne g ha e.symm)
theorem IsFloats.apart {w w' : World} {a b : Option Addr} {n cap : Nat} {ys : List Nat} (h : IsFloats .f32 w a n cap ys) (hg : w.grownBy w' (blk b)) (hne : ∀ g, blk a = some g → blk b ≠ some g) : IsFloats .f32 w' a n cap ys := by
  obtain ⟨h1, h2, h3, h4, h5⟩ := h
  refine ⟨h1, h2, h3, h4, ?_⟩
  rcases h5 with h0 | ⟨b', off, rfl, hlt, hc⟩
  · exact .inl h0
  · refine .inr ⟨b', off, rfl, Nat.lt_of_lt_of_le hlt hg.size, fun i hi => ?_⟩
    rw [World.cell?_of_block (w := w) (hg.block b' hlt (fun e => hne b' rfl e.symm))]
    exact hc i hi
theorem Below.grownBy {B : Nat} {W w w' : World} {b : Option Addr} (h : Below B W w) (hg : w.grownBy w' (blk b)) (hB : B ≤ w.heap.size) (hb : ∀ g, blk b = some g → B ≤ g) : Below B W w' := h.grown hg hB hb

theorem OwnF.new_apart {w w' : World} {B : Nat} {a a' : Option Addr} {cap cap' : Nat} {ys ys' : List Nat} (h : OwnF w B a cap ys) (h' : OwnF w' w.heap.size a' cap' ys') : ∀ g, blk a = some g → blk a' ≠ some g := by
  intro g h1 h2
  have := (h.lt g h1).2
  have := (h'.lt g h2).1
  omega
theorem lt_apart {w w' : World} {B : Nat} {a a' : Option Addr} (h : ∀ g, blk a = some g → B ≤ g ∧ g < w.heap.size) (h' : ∀ g, blk a' = some g → w.heap.size ≤ g ∧ g < w'.heap.size) : ∀ g, blk a = some g → blk a' ≠ some g := by
  intro g h1 h2
  have := (h g h1).2
  have := (h' g h2).1
  omega
theorem OwnF.lenle {w : World} {B : Nat} {a : Option Addr} {cap : Nat} {ys zs : List Nat} (_ : OwnF w B a cap ys) (he : ys.map (canon .f32) = zs) {n : Nat} (hz : zs.length ≤ n) : ys.length ≤ n := by
  rw [← he] at hz; simpa using hz


def EqRel2 (n : Nat) (w : World) (i : Value) (wr : World) : Prop := ∃ k m : Nat, k ≤ n ∧ i = .int .i64 k ∧ wr = w.drewN m
theorem map_getD {xs ys : List Nat} (h : xs.map (canon .f32) = ys.map (canon .f32)) (k : Nat) : canon .f32 (xs.getD k 0) = canon .f32 (ys.getD k 0) := by
  have hl : xs.length = ys.length := by simpa using congrArg List.length h
  by_cases hk : k < xs.length
  · have h1 : (xs.map (canon .f32))[k]? = (ys.map (canon .f32))[k]? := by rw [h]
    have hk' : k < ys.length := by omega
    simpa [hk, hk'] using h1
  · simp [hk, show ¬ k < ys.length by omega]
set_option maxHeartbeats 400000 in
/-- two lists with the same numbers are the same -/
theorem c_eqFloats' (a b : Option Addr) (ca cb : Nat) (xs ys : List Nat) (n : Nat) (w : World) (ha : IsFloats .f32 w a n ca xs) (hb : IsFloats .f32 w b n cb ys) (hc : xs.map (canon .f32) = ys.map (canon .f32)) : Calls Tryd.prog 8 #[.slice a n ca, .slice b n cb] w (RetTrue w) := by
  obtain ⟨a1, a2, a3, a4, a5⟩ := ha
  obtain ⟨b1, b2, b3, b4, b5⟩ := hb
  have hmax : n ≤ 9223372036854775807 := by unfold maxLen at a2; omega
  have A5 := Lib.hid a5
  have B5 := Lib.hid b5
  have HC := Lib.hid hc
  clear a1 a2 a3 a4 a5 b1 b2 b3 b4 b5 hc
  go_enter Tryd.func8, Tryd.ntmps8
  go_wp2
  go_loopw [5] (fun i wr => EqRel2 n w i wr) (fun i _ => n - (intOf i).toNat)
  case atStart => exact ⟨0, 0, Nat.zero_le _, rfl, rfl⟩
  case round =>
    obtain ⟨k, m, hk, rfl, rfl⟩ := hrel
    by_cases hlt : k < n
    · rcases A5.out with h0 | ⟨p, off, ha, _, hca⟩
      · omega
      · rcases B5.out with h0 | ⟨q, off', hb, _, hcb⟩
        · omega
        · subst ha
          subst hb
          have c1 := hca k hlt
          have c2 := hcb k hlt
          have HE := Lib.hid (map_getD HC.out k)
          obtain ⟨z, hz⟩ : ∃ z, xs.getD k 0 = z := ⟨_, rfl⟩
          obtain ⟨y, hy⟩ : ∃ z, ys.getD k 0 = z := ⟨_, rfl⟩
          rw [hz] at c1 HE
          rw [hy] at c2 HE
          clear hca hcb hz hy
          go_wp2
          go_region_with (go_at_call 25; refine (c_sameFloat _ _ (cwide_same _ _ HE.out) _).mono ?_; rintro e wz ⟨rfl, nz, rfl⟩)
          all_goals
            go_wp2
            go_roundw
            case rel => exact ⟨k + 1, _, by omega, by go_num, rfl⟩
            case measure => simp [intOf]; omega
    · go_wp2
      go_ret
      exact ⟨rfl, Drawn.mk _ _⟩
theorem c_eqFloats (a b : Option Addr) (ca cb : Nat) (xs ys : List Nat) (w : World) (ha : IsFloats .f32 w a xs.length ca xs) (hb : IsFloats .f32 w b ys.length cb ys) (hc : xs.map (canon .f32) = ys.map (canon .f32)) : Calls Tryd.prog 8 #[.slice a xs.length ca, .slice b ys.length cb] w (RetTrue w) := by
  have hl : ys.length = xs.length := by simpa using (congrArg List.length hc).symm
  rw [hl] at hb ⊢
  exact c_eqFloats' a b ca cb xs ys xs.length w ha hb hc

/-- the marks -/
def marks (k n : Nat) : List Nat := (List.range n).map fun i : Nat => floatOfInt .f32 ((k : Int) + (i : Int))
theorem marks_length (k n : Nat) : (marks k n).length = n := by simp [marks]
theorem floatOfInt_num (n : Int) : isNan .f32 (floatOfInt .f32 n) = false := nearest_num _ _ _ _
theorem floatOfInt_lt (n : Int) : floatOfInt .f32 n < 2 ^ 32 := Ieee.single.nearest_lt _ _ _
theorem marks_lt (k n : Nat) : ∀ y ∈ marks k n, y < 2 ^ 32 := by
  intro y hy
  obtain ⟨i, _, rfl⟩ := List.mem_map.1 hy
  exact floatOfInt_lt _
def marked (k : Nat) (ys : List Nat) (j : Nat) : List Value := (marks k j).map (Value.float .f32) ++ (ys.drop j).map (Value.float .f32)
theorem marks_succ (k j : Nat) : marks k (j + 1) = marks k j ++ [floatOfInt .f32 ((k : Int) + (j : Int))] := by
  unfold marks; rw [List.range_succ, List.map_append]; rfl
theorem marked_set (k : Nat) (ys : List Nat) (j : Nat) (h : j < ys.length) : (marked k ys j).set j (.float .f32 (floatOfInt .f32 ((k : Int) + (j : Int)))) = marked k ys (j + 1) := by
  unfold marked
  have hl : ((marks k j).map (Value.float .f32)).length = j := by simp [marks_length]
  rw [List.set_append_right _ _ (by omega), hl, Nat.sub_self, marks_succ, List.map_append, List.append_assoc]
  congr 1
  rw [List.drop_eq_getElem_cons h]
  rfl
theorem marked_zero (k : Nat) (ys : List Nat) : marked k ys 0 = ys.map (Value.float .f32) := by simp [marked, marks]
theorem marked_all (k : Nat) (ys : List Nat) : marked k ys ys.length = (marks k ys.length).map (Value.float .f32) := by simp [marked]
def MarkRel (k0 B g cap : Nat) (ys : List Nat) (w : World) (k i : Value) (wr : World) : Prop :=
  ∃ j : Nat, j ≤ ys.length ∧ i = .int .i64 j ∧ k = .int .i64 ((k0 + j : Nat) : Int) ∧ wr.ownsRow B 34 1 (.slice (some ⟨g, 0, none⟩) ys.length cap) ys.length (marked k0 ys j) ∧ w.grownBy wr (some g)
def RetMark (k B : Nat) (a : Option Addr) (cap n : Nat) (w : World) (e : Ending) (w' : World) : Prop :=
  e = .returned (.int .i64 ((k + n : Nat) : Int)) ∧ OwnF w' B a cap (marks k n) ∧ w.grownBy w' (blk a)
theorem grown_set {w wr w' : World} {g : Nat} (h : w.grownBy wr (some g)) (h' : wr.grownBy w' (some g)) : w.grownBy w' (some g) :=
  ⟨h'.os.trans h.os, h'.tape.trans h.tape, h'.output.trans h.output, Nat.le_trans h.size h'.size, fun k hk hne => (h'.block k (Nat.lt_of_lt_of_le hk h.size) hne).trans (h.block k hk hne)⟩
theorem grown_refl (w : World) (r : Option Nat) : w.grownBy w r := ⟨rfl, rfl, rfl, Nat.le_refl _, fun _ _ _ => rfl⟩
set_option maxHeartbeats 400000 in
theorem c_markFloats (a : Option Addr) (cap B k : Nat) (ys : List Nat) (w : World) (h : OwnF w B a cap ys) (hk : k ≤ 4194304) (hl : ys.length ≤ 1048576) : Calls Tryd.prog 9 #[.slice a ys.length cap, .int .i64 k] w (RetMark k B a cap ys.length w) := by
  obtain ⟨ho, hlt⟩ := h
  obtain ⟨n, hn⟩ : ∃ n, ys.length = n := ⟨_, rfl⟩
  have hn1 : n ≤ 1048576 := by omega
  rcases ho.2 with ⟨hv, h0⟩ | ⟨g, c, cur, hv, _⟩
  · simp only [Value.slice.injEq] at hv
    obtain ⟨rfl, _, rfl⟩ := hv
    obtain rfl : ys = [] := List.eq_nil_of_length_eq_zero h0
    clear hn hl hn1 ho hlt h0
    go_enter Tryd.func9, Tryd.ntmps9
    go_wp2
    refine wp_loop_rounds 1 ?_
    rw [rounds_succ]
    go_wp2
    go_ret
    exact ⟨rfl, ⟨World.ownsRow_nil _ _ _ _, marks_lt k 0⟩, grown_refl _ _⟩
  · simp only [Value.slice.injEq] at hv
    obtain ⟨rfl, _, rfl⟩ := hv
    have HO := Lib.hid ho
    have HN := Lib.hid hn
    rw [hn]
    clear ho hlt hl hn
    go_enter Tryd.func9, Tryd.ntmps9
    go_wp2
    go_loopw [1, 5] (fun k' i wr => MarkRel k B g cap ys w k' i wr) (fun _ i _ => n - (intOf i).toNat)
    case atStart => exact ⟨0, Nat.zero_le _, rfl, rfl, by rw [marked_zero]; exact HO.out, grown_refl _ _⟩
    case round =>
      obtain ⟨j, hj, rfl, rfl, ho, hg⟩ := hrel
      rw [HN.out] at hj
      have HO' := Lib.hid ho
      have HG' := Lib.hid hg
      clear ho hg
      by_cases hlt : j < n
      · have hfz : wr.frozen? ⟨g, j, none⟩ = false := HO'.out.frozenAt j
        obtain ⟨v0, hv0⟩ : ∃ v, wr.cell? ⟨g, j, none⟩ = some v := by
          rw [HO'.out.cellAt j (by rw [HN.out]; omega)]
          exact ⟨_, List.getElem?_eq_getElem (by rw [HO'.out.1, HN.out]; omega)⟩
        go_wp2
        go_roundw
        case rel =>
          obtain ⟨o1, o2⟩ := HO'.out.stored j (.float .f32 (floatOfInt .f32 ((k : Int) + (j : Int))))
          rw [marked_set k ys j (by rw [HN.out]; exact hlt)] at o1
          exact ⟨j + 1, by rw [HN.out]; omega, by go_num, by go_num, o1, grown_set HG'.out o2⟩
        case measure => simp [intOf]; omega
      · obtain rfl : j = n := by omega
        go_wp2
        go_ret
        have ho := HO'.out
        rw [← HN.out, marked_all] at ho
        refine ⟨rfl, ⟨?_, marks_lt _ _⟩, HG'.out⟩
        rw [marks_length, ← HN.out]
        exact ho

theorem c_markFloats' (a : Option Addr) (cap B k m : Nat) (ys : List Nat) (w : World) (h : OwnF w B a cap ys) (hm : k + ys.length = m) (hk : k ≤ 4194304) (hl : ys.length ≤ 1048576) : Calls Tryd.prog 9 #[.slice a ys.length cap, .int .i64 k] w fun e w' => e = .returned (.int .i64 (m : Int)) ∧ OwnF w' B a cap (marks k ys.length) ∧ w.grownBy w' (blk a) := by
  subst hm
  exact c_markFloats a cap B k ys w h hk hl
theorem OwnF.held {w : World} {B : Nat} {a : Option Addr} {cap k n : Nat} (h : OwnF w B a cap (marks k n)) : IsFloats .f32 w a n cap (marks k n) := by
  have := h.isFloats
  rw [marks_length] at this
  exact this
def HeldRel (k0 n : Nat) (k i : Value) : Prop := ∃ j : Nat, j ≤ n ∧ i = .int .i64 j ∧ k = .int .i64 ((k0 + j : Nat) : Int)
theorem marks_getD (k n j : Nat) (h : j < n) : (marks k n).getD j 0 = floatOfInt .f32 ((k : Int) + (j : Int)) := by
  simp [marks, List.getD, h]
theorem c_heldFloats (a : Option Addr) (cap k n : Nat) (w : World) (h : IsFloats .f32 w a n cap (marks k n)) (hk : k ≤ 4194304) (hl : n ≤ 1048576) : Calls Tryd.prog 10 #[.slice a n cap, .int .i64 k] w fun e w' => e = .returned (.int .i64 ((k + n : Nat) : Int)) ∧ w = w' := by
  obtain ⟨h1, h2, h3, h4, h5⟩ := h
  have H5 := Lib.hid h5
  clear h1 h2 h3 h4 h5
  go_enter Tryd.func10, Tryd.ntmps10
  go_wp2
  go_loop [1, 5] (fun k' i => HeldRel k n k' i) (fun _ i => n - (intOf i).toNat)
  case atStart => exact ⟨0, Nat.zero_le _, rfl, rfl⟩
  case round =>
    obtain ⟨j, hj, rfl, rfl⟩ := hrel
    by_cases hlt : j < n
    · rcases H5.out with h0 | ⟨b, off, ha, _, hc⟩
      · omega
      · subst ha
        have hcell := hc j hlt
        rw [marks_getD k n j hlt] at hcell
        have ho : (FloatKind.f32.format.order (floatOfInt .f32 ((k : Int) + (j : Int))) (floatOfInt .f32 ((k : Int) + (j : Int))) != some .eq) = false := by rw [order_self_ne]; exact floatOfInt_num _
        clear hc
        go_wp2
        go_round
        case rel => exact ⟨j + 1, by omega, by go_num, by go_num⟩
        case measure => simp [intOf]; omega
    · obtain rfl : j = n := by omega
      go_wp2
      go_ret
      exact ⟨rfl, rfl⟩
theorem c_heldFloats' (a : Option Addr) (cap k m n : Nat) (w : World) (h : IsFloats .f32 w a n cap (marks k n)) (hm : k + n = m) (hk : k ≤ 4194304) (hl : n ≤ 1048576) : Calls Tryd.prog 10 #[.slice a n cap, .int .i64 k] w fun e w' => e = .returned (.int .i64 (m : Int)) ∧ w = w' := by
  subst hm
  exact c_heldFloats a cap k n w h hk hl
end Go.Proofs.YtpfbhckmpkiijaaDoor
