/-
  Words for lists of int64 that a call made: compared, marked, looked at again. Conditions: the elements can be read.
-/
import Derived.Test.YtdgoladbkaldkaaTens
namespace Go.Proofs.Ytdgoladbkaldkaa
open Go.RowKit

def toV (z : Int) : Value := .int .i64 z
/-- a row of integers that the call made -/
def OwnI (w : World) (B : Nat) (a : Option Addr) (cap : Nat) (ys : List Int) : Prop :=
  w.ownsRow B 2 1 (.slice a ys.length cap) ys.length (ys.map toV) ∧ (∀ y ∈ ys, (Lit.int .i64 y).wf = true)
theorem OwnI.cap_ok {w : World} {B : Nat} {a : Option Addr} {cap : Nat} {ys : List Int} (h : OwnI w B a cap ys) : ys.length ≤ cap ∧ cap ≤ maxLen := by
  rcases h.1.2 with ⟨hv, h0⟩ | ⟨g, c, cur, hv, _, _, h1, h2, _⟩
  · simp only [Value.slice.injEq] at hv
    omega
  · simp only [Value.slice.injEq] at hv
    omega
theorem OwnI.isRow {w : World} {B : Nat} {a : Option Addr} {cap : Nat} {ys : List Int} (h : OwnI w B a cap ys) : IsRow .i64 w a ys.length cap ys := by
  refine ⟨h.cap_ok.1, h.cap_ok.2, rfl, h.2, ?_⟩
  rcases h.1.2 with ⟨hv, h0⟩ | ⟨g, c, cur, hv, _, hg, h1, h2, h3, h4⟩
  · exact .inl h0
  · simp only [Value.slice.injEq] at hv
    obtain ⟨rfl, _, rfl⟩ := hv
    refine .inr ⟨g, 0, rfl, (Array.getElem?_eq_some_iff.1 hg).1, fun i hi => ?_⟩
    rw [Nat.zero_add, h.1.cellAt i (by omega)]
    simp [List.getD, hi, toV]
theorem OwnI.kept {w w' : World} {B : Nat} {a : Option Addr} {cap : Nat} {ys : List Int} (h : OwnI w B a cap ys) (hb : Below w.heap.size w w') : OwnI w' B a cap ys :=
  ⟨h.1.kept (row := none) ⟨hb.os, hb.tape, hb.output, hb.size, fun j hj _ => hb.block j hj⟩ (by cases hv : Value.ownBlock (.slice a ys.length cap) <;> simp), h.2⟩
theorem OwnI.base {w : World} {B B' : Nat} {a : Option Addr} {cap : Nat} {ys : List Int} (h : OwnI w B a cap ys) (hb : B' ≤ B) : OwnI w B' a cap ys := by
  refine ⟨⟨h.1.1, ?_⟩, h.2⟩
  rcases h.1.2 with h' | ⟨g, c, cur, hv, hB, r⟩
  · exact .inl h'
  · exact .inr ⟨g, c, cur, hv, by omega, r⟩
theorem OwnI.lt {w : World} {B : Nat} {a : Option Addr} {cap : Nat} {ys : List Int} (h : OwnI w B a cap ys) : ∀ g, blk a = some g → B ≤ g ∧ g < w.heap.size := by
  intro g hg
  refine h.1.lt g ?_
  cases a with
  | none => cases hg
  | some p => simpa [blk, Value.ownBlock] using hg
theorem OwnI.apart {w w' : World} {B : Nat} {a b : Option Addr} {cap : Nat} {ys : List Int} (h : OwnI w B a cap ys) (hg : w.grownBy w' (blk b)) (hne : ∀ g, blk a = some g → blk b ≠ some g) : OwnI w' B a cap ys := by
  refine ⟨h.1.kept hg ?_, h.2⟩
  rw [ownBlock_slice]
  cases ha : blk a with
  | none => exact .inl rfl
  | some g => exact .inr (fun e => hne g ha e.symm)
theorem OwnI.lenle {w : World} {B : Nat} {a : Option Addr} {cap : Nat} {ys zs : List Int} (_ : OwnI w B a cap ys) (he : ys = zs) {n : Nat} (hz : zs.length ≤ n) : ys.length ≤ n := by
  rw [he]; exact hz
theorem Blk.apartI {w w' : World} {g : Nat} {t : TypeId} {cs : Array Value} {B : Nat} {a : Option Addr} {cap : Nat} {ys : List Int} (h : Blk w g t cs) (hg : w.grownBy w' (blk a)) (ho : OwnI w B a cap ys) (ht : t ≠ 2) : Blk w' g t cs := by
  refine (hg.block g h.lt ?_).trans h
  intro e
  rcases ho.1.2 with ⟨hv, _⟩ | ⟨g', c, cur, hv, _, hh, _⟩
  · simp only [Value.slice.injEq] at hv
    rw [hv.1] at e
    cases e
  · simp only [Value.slice.injEq] at hv
    rw [hv.1] at e
    simp only [blk, Option.map_some, Option.some.injEq] at e
    subst e
    unfold Blk at h
    rw [h] at hh
    simp only [Option.some.injEq, Obj.cells.injEq] at hh
    exact ht hh.2.1
theorem nil_ownI (w : World) (B : Nat) : OwnI w B none 0 [] := ⟨World.ownsRow_nil _ _ _ _, fun _ h => by cases h⟩
def RetI (b : Bool) (zs : List Int) (w : World) (e : Ending) (w' : World) : Prop :=
  ∃ a cap ys, e = .returned (.tuple #[.slice a ys.length cap, .bool b]) ∧ OwnI w' w.heap.size a cap ys ∧ ys = zs ∧ Below w.heap.size w w'
def EqRelI (n : Nat) (w : World) (i : Value) (wr : World) : Prop := ∃ k m : Nat, k ≤ n ∧ i = .int .i64 k ∧ wr = w.drewN m
set_option maxHeartbeats 400000 in
theorem c_eqInts' (a b : Option Addr) (ca cb : Nat) (xs ys : List Int) (n : Nat) (w : World) (ha : IsRow .i64 w a n ca xs) (hb : IsRow .i64 w b n cb ys) (hc : xs = ys) : Calls Try.prog 20 #[.slice a n ca, .slice b n cb] w (RetTrue w) := by
  subst hc
  obtain ⟨a1, a2, a3, a4, a5⟩ := ha
  obtain ⟨b1, b2, b3, b4, b5⟩ := hb
  have hmax : n ≤ 9223372036854775807 := by unfold maxLen at a2; omega
  have A5 := Lib.hid a5
  have B5 := Lib.hid b5
  clear a1 a2 a3 a4 a5 b1 b2 b3 b4 b5
  go_enter Try.func20, Try.ntmps20
  go_wp2
  go_loopw [5] (fun i wr => EqRelI n w i wr) (fun i _ => n - (intOf i).toNat)
  case atStart => exact ⟨0, 0, Nat.zero_le _, rfl, rfl⟩
  case round =>
    obtain ⟨k, m, hk, rfl, rfl⟩ := hrel
    by_cases hlt : k < n
    · rcases A5.out with h0 | ⟨p, off, ha, _, hca⟩
      · omega
      · rcases B5.out with h0 | ⟨q, off', hb, _, hcb⟩
        · omega
        · subst ha
          subst hb
          have c1 := hca k hlt
          have c2 := hcb k hlt
          obtain ⟨z, hz⟩ : ∃ z, xs.getD k 0 = z := ⟨_, rfl⟩
          rw [hz] at c1 c2
          clear hca hcb hz
          go_wp2
          go_region
          all_goals
            go_wp2
            go_roundw
            case rel => exact ⟨k + 1, _, by omega, by go_num, rfl⟩
            case measure => simp [intOf]; omega
    · go_wp2
      go_ret
      exact ⟨rfl, Drawn.mk _ _⟩
theorem c_eqInts (a b : Option Addr) (ca cb : Nat) (xs ys : List Int) (w : World) (ha : IsRow .i64 w a xs.length ca xs) (hb : IsRow .i64 w b ys.length cb ys) (hc : xs = ys) : Calls Try.prog 20 #[.slice a xs.length ca, .slice b ys.length cb] w (RetTrue w) := by
  subst hc
  exact c_eqInts' a b ca cb xs xs xs.length w ha hb rfl
def marksI (k n : Nat) : List Int := (List.range n).map fun i : Nat => ((k : Int) + (i : Int))
theorem marksI_length (k n : Nat) : (marksI k n).length = n := by simp [marksI]
theorem marksI_wf (k n : Nat) (hk : k ≤ 8388608) (hn : n ≤ 1048576) : ∀ y ∈ marksI k n, (Lit.int .i64 y).wf = true := by
  intro y hy
  obtain ⟨i, hi, rfl⟩ := List.mem_map.1 hy
  have := List.mem_range.1 hi
  simp [Lit.wf, IntKind.min, IntKind.max, IntKind.signed, IntKind.bits]
  omega
def markedI (k : Nat) (ys : List Int) (j : Nat) : List Value := (marksI k j).map toV ++ (ys.drop j).map toV
theorem marksI_succ (k j : Nat) : marksI k (j + 1) = marksI k j ++ [((k : Int) + (j : Int))] := by
  unfold marksI; rw [List.range_succ, List.map_append]; rfl
theorem markedI_set (k : Nat) (ys : List Int) (j : Nat) (h : j < ys.length) : (markedI k ys j).set j (.int .i64 ((k : Int) + (j : Int))) = markedI k ys (j + 1) := by
  unfold markedI
  have hl : ((marksI k j).map toV).length = j := by simp [marksI_length]
  rw [List.set_append_right _ _ (by omega), hl, Nat.sub_self, marksI_succ, List.map_append, List.append_assoc]
  congr 1
  rw [List.drop_eq_getElem_cons h]
  rfl
theorem markedI_zero (k : Nat) (ys : List Int) : markedI k ys 0 = ys.map toV := by simp [markedI, marksI]
theorem markedI_all (k : Nat) (ys : List Int) : markedI k ys ys.length = (marksI k ys.length).map toV := by simp [markedI]
def MarkRelI (k0 B g cap : Nat) (ys : List Int) (w : World) (k i : Value) (wr : World) : Prop :=
  ∃ j : Nat, j ≤ ys.length ∧ i = .int .i64 j ∧ k = .int .i64 ((k0 + j : Nat) : Int) ∧ wr.ownsRow B 2 1 (.slice (some ⟨g, 0, none⟩) ys.length cap) ys.length (markedI k0 ys j) ∧ w.grownBy wr (some g)
def RetMarkI (k B : Nat) (a : Option Addr) (cap n : Nat) (w : World) (e : Ending) (w' : World) : Prop :=
  e = .returned (.int .i64 ((k + n : Nat) : Int)) ∧ OwnI w' B a cap (marksI k n) ∧ w.grownBy w' (blk a)
set_option maxHeartbeats 400000 in
theorem c_markInts (a : Option Addr) (cap B k : Nat) (ys : List Int) (w : World) (h : OwnI w B a cap ys) (hk : k ≤ 8388608) (hl : ys.length ≤ 1048576) : Calls Try.prog 21 #[.slice a ys.length cap, .int .i64 k] w (RetMarkI k B a cap ys.length w) := by
  obtain ⟨ho, hlt⟩ := h
  obtain ⟨n, hn⟩ : ∃ n, ys.length = n := ⟨_, rfl⟩
  have hn1 : n ≤ 1048576 := by omega
  rcases ho.2 with ⟨hv, h0⟩ | ⟨g, c, cur, hv, _⟩
  · simp only [Value.slice.injEq] at hv
    obtain ⟨rfl, _, rfl⟩ := hv
    obtain rfl : ys = [] := List.eq_nil_of_length_eq_zero h0
    clear hn hl hn1 ho hlt h0
    go_enter Try.func21, Try.ntmps21
    go_wp2
    refine wp_loop_rounds 1 ?_
    rw [rounds_succ]
    go_wp2
    go_ret
    exact ⟨rfl, ⟨World.ownsRow_nil _ _ _ _, marksI_wf k 0 hk (by decide)⟩, grown_refl _ _⟩
  · simp only [Value.slice.injEq] at hv
    obtain ⟨rfl, _, rfl⟩ := hv
    have HO := Lib.hid ho
    have HN := Lib.hid hn
    rw [hn]
    clear ho hlt hl hn
    go_enter Try.func21, Try.ntmps21
    go_wp2
    go_loopw [1, 5] (fun k' i wr => MarkRelI k B g cap ys w k' i wr) (fun _ i _ => n - (intOf i).toNat)
    case atStart => exact ⟨0, Nat.zero_le _, rfl, rfl, by rw [markedI_zero]; exact HO.out, grown_refl _ _⟩
    case round =>
      obtain ⟨j, hj, rfl, rfl, ho, hg⟩ := hrel
      rw [HN.out] at hj
      have HO' := Lib.hid ho
      have HG' := Lib.hid hg
      clear ho hg
      by_cases hlt : j < n
      · have hfz : wr.frozen? ⟨g, j, none⟩ = false := HO'.out.frozenAt j
        obtain ⟨v0, hv0⟩ : ∃ v, wr.cell? ⟨g, j, none⟩ = some v := by
          rw [HO'.out.cellAt j (by rw [HN.out]; omega)]
          exact ⟨_, List.getElem?_eq_getElem (by rw [HO'.out.1, HN.out]; omega)⟩
        go_wp2
        go_roundw
        case rel =>
          obtain ⟨o1, o2⟩ := HO'.out.stored j (.int .i64 ((k : Int) + (j : Int)))
          rw [markedI_set k ys j (by rw [HN.out]; exact hlt)] at o1
          exact ⟨j + 1, by rw [HN.out]; omega, by go_num, by go_num, o1, grown_set HG'.out o2⟩
        case measure => simp [intOf]; omega
      · obtain rfl : j = n := by omega
        go_wp2
        go_ret
        have ho := HO'.out
        rw [← HN.out, markedI_all] at ho
        refine ⟨rfl, ⟨?_, marksI_wf _ _ hk hn1⟩, HG'.out⟩
        rw [marksI_length, ← HN.out]
        exact ho
theorem c_markInts' (a : Option Addr) (cap B k m : Nat) (ys : List Int) (w : World) (h : OwnI w B a cap ys) (hm : k + ys.length = m) (hk : k ≤ 8388608) (hl : ys.length ≤ 1048576) : Calls Try.prog 21 #[.slice a ys.length cap, .int .i64 k] w fun e w' => e = .returned (.int .i64 (m : Int)) ∧ OwnI w' B a cap (marksI k ys.length) ∧ w.grownBy w' (blk a) := by
  subst hm
  exact c_markInts a cap B k ys w h hk hl
theorem OwnI.held {w : World} {B : Nat} {a : Option Addr} {cap k n : Nat} (h : OwnI w B a cap (marksI k n)) : IsRow .i64 w a n cap (marksI k n) := by
  have := h.isRow
  rw [marksI_length] at this
  exact this
def HeldRelI (k0 n : Nat) (k i : Value) : Prop := ∃ j : Nat, j ≤ n ∧ i = .int .i64 j ∧ k = .int .i64 ((k0 + j : Nat) : Int)
theorem marksI_getD (k n j : Nat) (h : j < n) : (marksI k n).getD j 0 = ((k : Int) + (j : Int)) := by
  simp [marksI, List.getD, h]
theorem c_heldInts (a : Option Addr) (cap k n : Nat) (w : World) (h : IsRow .i64 w a n cap (marksI k n)) (hk : k ≤ 8388608) (hl : n ≤ 1048576) : Calls Try.prog 22 #[.slice a n cap, .int .i64 k] w fun e w' => e = .returned (.int .i64 ((k + n : Nat) : Int)) ∧ w = w' := by
  obtain ⟨h1, h2, h3, h4, h5⟩ := h
  have H5 := Lib.hid h5
  clear h1 h2 h3 h4 h5
  go_enter Try.func22, Try.ntmps22
  go_wp2
  go_loop [1, 5] (fun k' i => HeldRelI k n k' i) (fun _ i => n - (intOf i).toNat)
  case atStart => exact ⟨0, Nat.zero_le _, rfl, rfl⟩
  case round =>
    obtain ⟨j, hj, rfl, rfl⟩ := hrel
    by_cases hlt : j < n
    · rcases H5.out with h0 | ⟨b, off, ha, _, hc⟩
      · omega
      · subst ha
        have hcell := hc j hlt
        rw [marksI_getD k n j hlt] at hcell
        clear hc
        go_wp2
        go_round
        case rel => exact ⟨j + 1, by omega, by go_num, by go_num⟩
        case measure => simp [intOf]; omega
    · obtain rfl : j = n := by omega
      go_wp2
      go_ret
      exact ⟨rfl, rfl⟩
theorem c_heldInts' (a : Option Addr) (cap k m n : Nat) (w : World) (h : IsRow .i64 w a n cap (marksI k n)) (hm : k + n = m) (hk : k ≤ 8388608) (hl : n ≤ 1048576) : Calls Try.prog 22 #[.slice a n cap, .int .i64 k] w fun e w' => e = .returned (.int .i64 (m : Int)) ∧ w = w' := by
  subst hm
  exact c_heldInts a cap k n w h hk hl
end Go.Proofs.Ytdgoladbkaldkaa
