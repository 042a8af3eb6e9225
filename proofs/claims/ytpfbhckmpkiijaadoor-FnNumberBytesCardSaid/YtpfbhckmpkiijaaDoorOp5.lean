/-
  Words for lists of numbers of chapter 5: what is returned, lists that grow number by number, and lists that are changed in place. Conditions: none.
-/
import Derived.Test.YtpfbhckmpkiijaaDoorFun
namespace Go.Proofs.YtpfbhckmpkiijaaDoor
open Go.RowKit Go.Deep Go.WideShapes Go.ChangeShapes
set_option linter.unusedVariables false

/-- a number, a list and ok -/
def RetQ (x : Nat) (b : Bool) (zs : List Nat) (w : World) (e : Ending) (w' : World) : Prop :=
  ∃ r a cap ys, canon .f32 r = x ∧ e = .returned (.tuple #[.float .f32 r, .slice a ys.length cap, .bool b]) ∧ OwnF w' w.heap.size a cap ys ∧ ys.map (canon .f32) = zs ∧ Below w.heap.size w w'
/-- a list, a number and ok -/
def RetK (x : Nat) (b : Bool) (zs : List Nat) (w : World) (e : Ending) (w' : World) : Prop :=
  ∃ r a cap ys, canon .f32 r = x ∧ e = .returned (.tuple #[.slice a ys.length cap, .float .f32 r, .bool b]) ∧ OwnF w' w.heap.size a cap ys ∧ ys.map (canon .f32) = zs ∧ Below w.heap.size w w'
/-- an integer and ok -/
def RetN (x : Int) (b : Bool) (w : World) (e : Ending) (w' : World) : Prop := e = .returned (.tuple #[.int .i64 x, .bool b]) ∧ Below w.heap.size w w'

theorem cop_canon (op : BinOp) (k : FloatKind) (x y : Nat) : canon k (cop op k x y) = cop op k x y := by
  unfold cop
  cases h : floatBits op k x y with
  | none => exact canon_nan (isNan_qnan k)
  | some r => exact canon_num (floatBits_num h)

/-! a row of the call's own, a number of which is set -/
theorem own_some {w : World} {B c : Nat} {a : Option Addr} {ys : List Nat} (h : OwnF w B a c ys) (hp : 0 < ys.length) : ∃ g, a = some ⟨g, 0, none⟩ ∧ B ≤ g ∧ g < w.heap.size := by
  rcases h.1.2 with ⟨hv, h0⟩ | ⟨g, cc, cur, hv, hB, hg, _⟩
  · omega
  · simp only [Value.slice.injEq] at hv
    exact ⟨g, hv.1, hB, (Array.getElem?_eq_some_iff.1 hg).1⟩
theorem own_set {w : World} {B g c k v : Nat} {ys : List Nat} (h : OwnF w B (some ⟨g, 0, none⟩) c ys) (hk : k < ys.length) (hv : v < 2 ^ 32) : OwnF (w.setCell ⟨g, k, none⟩ (.float .f32 v)) B (some ⟨g, 0, none⟩) c (ys.set k v) := by
  obtain ⟨o1, o2⟩ := h.1.stored k (.float .f32 v)
  refine ⟨by rw [List.length_set, List.map_set]; exact o1, fun y hy => ?_⟩
  rcases List.mem_or_eq_of_mem_set hy with hy | rfl
  · exact h.2 y hy
  · exact hv
theorem own_cell {w : World} {B g c k : Nat} {ys : List Nat} (h : OwnF w B (some ⟨g, 0, none⟩) c ys) (hk : k < ys.length) : w.cell? ⟨g, k, none⟩ = some (.float .f32 (ys.getD k 0)) ∧ w.frozen? ⟨g, k, none⟩ = false := by
  refine ⟨?_, h.1.frozenAt k⟩
  rw [h.1.cellAt k (by omega)]
  simp [List.getD, hk]
/-- the first k numbers are new ones -/
def UpdRel (f : Nat → Nat) (zs : List Nat) (B : Nat) (a : Option Addr) (c : Nat) (w : World) (i : Value) (wr : World) : Prop :=
  ∃ (k : Nat) (ys : List Nat), k ≤ zs.length ∧ i = .int .i64 k ∧ ys.length = k ∧ OwnF wr B a c (ys ++ zs.drop k) ∧ ys.map (canon .f32) = (List.range k).map f ∧ Below B w wr
theorem upd_first {f : Nat → Nat} {zs : List Nat} {B c : Nat} {a : Option Addr} {w wr : World} (h : OwnF wr B a c zs) (hb : Below B w wr) : UpdRel f zs B a c w (.int .i64 0) wr := ⟨0, [], Nat.zero_le _, rfl, rfl, by simpa using h, rfl, hb⟩
theorem upd_length {zs ys : List Nat} {k : Nat} (h : k ≤ zs.length) (hy : ys.length = k) : (ys ++ zs.drop k).length = zs.length := by simp; omega
theorem upd_at {zs ys : List Nat} {k : Nat} (hy : ys.length = k) : (ys ++ zs.drop k).getD k 0 = zs.getD k 0 := by
  subst hy
  unfold List.getD
  rw [List.getElem?_append_right (Nat.le_refl _), Nat.sub_self, List.getElem?_drop, Nat.add_zero]
theorem upd_next {f : Nat → Nat} {zs ys : List Nat} {B c k v g : Nat} {w wr w2 : World} (hk : k < zs.length) (hy : ys.length = k) (ho : OwnF wr B (some ⟨g, 0, none⟩) c (ys ++ zs.drop k)) (he : ys.map (canon .f32) = (List.range k).map f) (hl : Below B w wr)
    (hb : Below wr.heap.size wr w2) (hB : B ≤ wr.heap.size) (hv : v < 2 ^ 32) (hc : canon .f32 v = f k) : UpdRel f zs B (some ⟨g, 0, none⟩) c w (.int .i64 ((k : Int) + 1)) (w2.setCell ⟨g, k, none⟩ (.float .f32 v)) := by
  have hlen := upd_length (Nat.le_of_lt hk) hy
  have hg := (ho.lt g rfl).1
  refine ⟨k + 1, ys ++ [v], hk, by go_num, by simp [hy], ?_, ?_, (hl.trans (hb.mono hB)).setCell hg _⟩
  · have h := own_set (ho.kept hb) (show k < _ by rw [hlen]; exact hk) hv
    have e : (ys ++ zs.drop k).set k v = (ys ++ [v]) ++ zs.drop (k + 1) := by
      rw [List.drop_eq_getElem_cons hk, List.set_append_right _ _ (by omega), hy, Nat.sub_self, List.set_cons_zero]
      simp
    rw [e] at h
    exact h
  · rw [List.map_append, he, List.range_succ, List.map_append]
    simp [hc]
theorem upd_end {zs ys : List Nat} {B c : Nat} {a : Option Addr} {wr : World} (hy : ys.length = zs.length) (ho : OwnF wr B a c (ys ++ zs.drop zs.length)) : OwnF wr B a c ys := by simpa using ho

/-! a list that grows number by number -/
def GrowRel (f : Nat → Nat) (n B : Nat) (w : World) (s i : Value) (wr : World) : Prop :=
  ∃ (k : Nat) (a : Option Addr) (c : Nat) (ys : List Nat), k ≤ n ∧ i = .int .i64 k ∧ s = .slice a ys.length c ∧ ys.length = k ∧ OwnF wr B a c ys ∧ ys.map (canon .f32) = (List.range k).map f ∧ Below w.heap.size w wr
theorem grow_first {f : Nat → Nat} {n B : Nat} {w wr : World} {T : TypeId} (hB : B ≤ wr.heap.size) (hT : T = 34) (hb : Below w.heap.size w wr) (hw : w.heap.size ≤ wr.heap.size) : GrowRel f n B w (.slice (some ⟨wr.heap.size, 0, none⟩) 0 0) (.int .i64 0) (wr.alloc (.cells #[] T)) := by
  subst hT
  exact ⟨0, _, 0, [], Nat.zero_le _, rfl, rfl, rfl, ⟨World.ownsRow_made wr #[] 0 hB (by unfold maxLen; omega) rfl, fun _ h => by cases h⟩, rfl, hb.alloc hw _⟩
theorem grow_reads {wr : World} {m v : Nat} : Reads ((wr.drewN m).alloc (.cells #[.float .f32 v] 34)) (wr.heap.size + 1) 1 (some ⟨wr.heap.size, 0, none⟩) 1 [.float .f32 v] := by
  refine ⟨rfl, fun _ => ⟨_, rfl, by simp, fun j u hu => ?_⟩⟩
  rw [add_plain]
  have := (Blk.new (wr.drewN m) 34 #[.float .f32 v]).cell (0 + j)
  have e : (wr.drewN m).heap.size = wr.heap.size := rfl
  rw [e] at this
  rw [this, Nat.zero_add]
  simpa using hu
theorem grow_own {B : Nat} {wr : World} {b : Option Addr} {cp m v : Nat} {ys : List Nat} (ho : OwnF wr B b cp ys) : ((wr.drewN m).alloc (.cells #[.float .f32 v] 34)).ownsRow B 34 1 (.slice b ys.length cp) ys.length (ys.map (Value.float .f32)) :=
  (ho.kept ((below_drewN (Below.refl _ _) m).alloc (Nat.le_refl _) _)).1
theorem grow_base {B : Nat} {wr : World} {m v : Nat} (h : B ≤ wr.heap.size) : B ≤ ((wr.drewN m).alloc (.cells #[.float .f32 v] 34)).heap.size := by
  rw [World.size_alloc]; exact Nat.le_trans h (Nat.le_succ _)
theorem one_f32 (v : Nat) : ∀ u ∈ [Value.float .f32 v], u.oneCell' = true := by intro u hu; simp at hu; subst hu; rfl
theorem grow_next {f : Nat → Nat} {n k B : Nat} {w wr w' : World} {b a' : Option Addr} {cp cp' m v : Nat} {ys : List Nat} (hk : k < n) (ho : OwnF wr B b cp ys) (hB : w.heap.size ≤ B) (hl : Below w.heap.size w wr)
    (he : ys.map (canon .f32) = (List.range k).map f) (hy : ys.length = k) (hv : v < 2 ^ 32) (hc : canon .f32 v = f k)
    (hown : w'.ownsRow B 34 1 (.slice a' (ys.length + 1) cp') (ys.length + 1) (ys.map (Value.float .f32) ++ [.float .f32 v])) (hg : ((wr.drewN m).alloc (.cells #[.float .f32 v] 34)).grownBy w' (Value.ownBlock (.slice b ys.length cp))) :
    GrowRel f n B w (.slice a' (ys.length + 1) cp') (.int .i64 ((k : Int) + 1)) w' := by
  rw [ownBlock_slice] at hg
  have bw : Below wr.heap.size wr ((wr.drewN m).alloc (.cells #[.float .f32 v] 34)) := (below_drewN (Below.refl _ _) m).alloc (Nat.le_refl _) _
  have ho1 := ho.kept bw
  have hl2 : Below w.heap.size w w' := (hl.trans (bw.mono hl.size)).grown hg (Nat.le_trans hl.size bw.size) (fun g h => Nat.le_trans hB (ho1.lt g h).1)
  refine ⟨k + 1, a', cp', ys ++ [v], hk, by go_num, by simp, by simp [hy], ⟨by simpa using hown, fun y hy' => ?_⟩, ?_, hl2⟩
  · rcases List.mem_append.1 hy' with h | h
    · exact ho.2 y h
    · simp at h; subst h; exact hv
  · rw [List.map_append, he, List.range_succ, List.map_append]
    simp [hc]
/-- .. and what else the world holds, apart from the list -/
theorem grow_below {B : Nat} {wr w' : World} {b : Option Addr} {cp m v : Nat} {ys : List Nat} (ho : OwnF wr B b cp ys) (hg : ((wr.drewN m).alloc (.cells #[.float .f32 v] 34)).grownBy w' (Value.ownBlock (.slice b ys.length cp))) : wr.grownBy w' (blk b) := by
  rw [ownBlock_slice] at hg
  have bw : Below wr.heap.size wr ((wr.drewN m).alloc (.cells #[.float .f32 v] 34)) := (below_drewN (Below.refl _ _) m).alloc (Nat.le_refl _) _
  exact ⟨hg.os.trans bw.os, hg.tape.trans bw.tape, hg.output.trans bw.output, Nat.le_trans bw.size hg.size, fun j hj hne => (hg.block j (Nat.lt_of_lt_of_le hj bw.size) hne).trans (bw.block j hj)⟩

end Go.Proofs.YtpfbhckmpkiijaaDoor
