/-
  Lists of lists of floats that the call made: takeLines at lists, and their concatenation (slices.Concat, slices.Grow). Conditions: the numbers can be read.
-/
import Derived.Test.YtpdgpoonblldgaaFun
import Derived.Lib.AppendZerosOnto
import Derived.Lib.SliceRun
namespace Go.Proofs.Ytpdgpoonblldgaa
open Go.RowKit Go.Deep Go.WideShapes Go.ChangeShapes

/-- a list that the call made, by its address -/
structure LRow where
  b : Option Addr
  c : Nat
  ys : List Nat
def LRow.val (r : LRow) : Value := .slice r.b r.ys.length r.c
def LRow.ok (w : World) (B : Nat) (zs : List Nat) (r : LRow) : Prop := OwnF w B r.b r.c r.ys ∧ r.ys.map (canon .f32) = zs
/-- the first rows are made -/
def partL (rs : List LRow) (n : Nat) : List Value := rs.map LRow.val ++ List.replicate (n - rs.length) (Value.slice none 0 0)
theorem partL_set (rs : List LRow) (n : Nat) (r : LRow) (h : rs.length < n) : (partL rs n).set rs.length r.val = partL (rs ++ [r]) n := by
  unfold partL
  rw [List.set_append_right _ _ (by simp), List.length_map, Nat.sub_self]
  obtain ⟨m, hm⟩ : ∃ m, n - rs.length = m + 1 := ⟨n - rs.length - 1, by omega⟩
  rw [hm, List.replicate_succ, List.set_cons_zero, show n - (rs ++ [r]).length = m by simp; omega]
  simp
theorem partL_all (rs : List LRow) : partL rs rs.length = rs.map LRow.val := by simp [partL]
theorem LRow.ok.kept {w w' : World} {B : Nat} {zs : List Nat} {r : LRow} (h : r.ok w B zs) (hb : Below w.heap.size w w') : r.ok w' B zs := ⟨h.1.kept hb, h.2⟩
theorem LRow.ok.far {w : World} {g i : Nat} {u : Value} {zs : List Nat} {r : LRow} (h : r.ok w (g + 1) zs) : r.ok (w.setCell ⟨g, i, none⟩ u) (g + 1) zs := ⟨h.1.far (by simp) u, h.2⟩
/-- rows number by number -/
def AllOk (w : World) (B : Nat) (rowOf : Nat → List Nat) (rs : List LRow) : Prop := ∀ (i : Nat) (r : LRow), rs[i]? = some r → r.ok w B (rowOf i)
theorem AllOk.kept {w w' : World} {B : Nat} {rowOf : Nat → List Nat} {rs : List LRow} (h : AllOk w B rowOf rs) (hb : Below w.heap.size w w') : AllOk w' B rowOf rs := fun i r hr => (h i r hr).kept hb
theorem AllOk.snoc {w : World} {B : Nat} {rowOf : Nat → List Nat} {rs : List LRow} {r : LRow} (h : AllOk w B rowOf rs) (hr : r.ok w B (rowOf rs.length)) : AllOk w B rowOf (rs ++ [r]) := by
  intro i r' hi
  by_cases hlt : i < rs.length
  · rw [List.getElem?_append_left hlt] at hi; exact h i r' hi
  · rw [List.getElem?_append_right (by omega)] at hi
    have : i - rs.length = 0 := by
      have := (List.getElem?_eq_some_iff.1 hi).1
      simp at this; omega
    rw [this] at hi
    simp at hi
    subst hi
    rw [show i = rs.length by omega]
    exact hr
theorem info_fl : (Try.prog.info? 25).map (fun i => (i.zero, i.size, i.bytes)) = some (some (.slice none 0 0), 1, 24) := by kernel_rfl
/-- a list of lists is returned -/
def RetRows (rowOf : Nat → List Nat) (n : Nat) (w : World) (e : Ending) (w' : World) : Prop :=
  ∃ (g : Nat) (rs : List LRow), e = .returned (.slice (some ⟨g, 0, none⟩) n n) ∧ rs.length = n ∧ w'.ownsRow w.heap.size 25 1 (.slice (some ⟨g, 0, none⟩) n n) n (rs.map LRow.val) ∧ AllOk w' w.heap.size rowOf rs ∧ Below w.heap.size w w'
def RowsRel (rowOf : Nat → List Nat) (n gd : Nat) (w : World) (i : Value) (wr : World) : Prop :=
  ∃ (k : Nat) (rs : List LRow), k ≤ n ∧ i = .int .i64 k ∧ rs.length = k ∧ wr.ownsRow w.heap.size 25 1 (.slice (some ⟨gd, 0, none⟩) n n) n (partL rs n) ∧ AllOk wr (gd + 1) rowOf rs ∧ Below w.heap.size w wr
theorem rows_step {rowOf : Nat → List Nat} {n gd k : Nat} {w wr w2 : World} {rs : List LRow} {r : LRow} (hgd : w.heap.size ≤ gd) (hy : rs.length = k) (hk : k < n) (ho : wr.ownsRow w.heap.size 25 1 (.slice (some ⟨gd, 0, none⟩) n n) n (partL rs n)) (hr : AllOk wr (gd + 1) rowOf rs)
    (hl : Below w.heap.size w wr) (hb : Below wr.heap.size wr w2) (hnew : r.ok w2 (gd + 1) (rowOf k)) :
    RowsRel rowOf n gd w (.int .i64 ((k : Int) + 1)) (w2.setCell ⟨gd, k, none⟩ r.val) := by
  have ho2 := ho.kept (row := none) ⟨hb.os, hb.tape, hb.output, hb.size, fun j hj _ => hb.block j hj⟩ (.inr (by simp [Value.ownBlock]))
  obtain ⟨o1, o2⟩ := ho2.stored k r.val
  rw [← hy, partL_set rs n r (by omega)] at o1
  refine ⟨k + 1, rs ++ [r], by omega, by go_num, by simp [hy], by rw [← hy]; exact o1, ?_, (hl.trans (hb.mono hl.size)).setCell hgd _⟩
  have h1 : AllOk w2 (gd + 1) rowOf (rs ++ [r]) := (hr.kept hb).snoc (by rw [hy]; exact hnew)
  exact fun i r' hr' => (h1 i r' hr').far
theorem rows_cell {gd n k : Nat} {w wr w2 : World} {rs : List LRow} (hk : k < n) (ho : wr.ownsRow w.heap.size 25 1 (.slice (some ⟨gd, 0, none⟩) n n) n (partL rs n)) (hb : Below wr.heap.size wr w2) : w2.frozen? ⟨gd, k, none⟩ = false ∧ ∃ v, w2.cell? ⟨gd, k, none⟩ = some v := by
  have ho2 := ho.kept (row := none) ⟨hb.os, hb.tape, hb.output, hb.size, fun j hj _ => hb.block j hj⟩ (.inr (by simp [Value.ownBlock]))
  refine ⟨ho2.frozenAt k, ?_⟩
  rw [ho2.cellAt k (by omega)]
  exact ⟨_, List.getElem?_eq_getElem (by rw [ho2.1]; omega)⟩
set_option maxRecDepth 20000 in
set_option maxHeartbeats 1000000 in
theorem c_takeRows (L F : FuncId) (caps : Array Value) (lineOf : Nat → List Nat) (rowOf : Nat → List Nat) (R C : Int) (a : Option Addr) (m cap n : Nat) (w : World) (hn : n ≤ 256)
    (hEL : ∀ (xs : Array Value) (wr : World), (callFunc L xs).run Try.prog wr = .ok (.enter L xs) wr) (hE : ∀ (xs : Array Value) (wr : World), (callFunc F xs).run Try.prog wr = .ok (.enter F xs) wr)
    (hL : ∀ (i : Nat) (wr : World), i < n → Below w.heap.size w wr → Calls Try.prog L #[.agg #[.int .i64 R, .int .i64 C, .slice a m cap], .int .i64 i] wr (RetRow (lineOf i) wr))
    (hF : ∀ (i : Nat) (b : Option Addr) (c : Nat) (wr : World), i < n → Below w.heap.size w wr → IsFloats .f32 wr b (lineOf i).length c (lineOf i) → Calls Try.prog F (#[.slice b (lineOf i).length c] ++ caps) wr (RetLs (rowOf i) wr)) :
    Calls Try.prog 109 #[.agg #[.int .i64 R, .int .i64 C, .slice a m cap], .int .i64 n, .func (.func L) #[] #[], .func (.func F) #[] caps] w (RetRows rowOf n w) := by
  have HG := Lib.hid hL
  have HC := Lib.hid hF
  obtain ⟨i0, hi, hz0, hz1, hz2⟩ := info_parts info_fl
  have HI := Lib.hid hi
  have HZ0 := Lib.hid hz0
  have HZ1 := Lib.hid hz1
  have HZ2 := Lib.hid hz2
  clear hL hF hi hz0 hz1 hz2
  go_enter Try.func109, Try.ntmps109
  go_wp2_with (at_make; refine wpList_make_full _ rfl _ _ 51 rfl w.heap.size 25 i0 (.slice none 0 0) 1 Try.underlying51 HI.out HZ0.out HZ1.out _ _ _ _ n rfl rfl rfl rfl ?c1 ?c2 ?c3 ?_)
  case c1 => rw [HZ2.out]; omega
  case c2 => unfold maxLen; omega
  case c3 => simp
  intro w1 hown hgrow
  have hb0 : Below w.heap.size w (w.alloc (.cells #[.int .i64 R, .int .i64 C, .slice a m cap] 38)) := (Below.refl _ _).alloc (Nat.le_refl _) _
  have hb1 := hb0.grown hgrow hb0.size (fun k h => by cases h)
  have k1 := Blk.new w 38 #[.int .i64 R, .int .i64 C, .slice a m cap]
  have k1 : Blk w1 w.heap.size 38 #[.int .i64 R, .int .i64 C, .slice a m cap] := (hgrow.block _ k1.lt (by simp)).trans k1
  have K1 := Lib.hid k1
  rw [toList_madeCells_one] at hown
  have HO := Lib.hid hown
  have HB := Lib.hid hb1
  clear hown hb0 hb1 hgrow k1
  go_wp2_with fail
  go_loopw [14] (fun i wr => RowsRel rowOf n (w.heap.size + 1) w i wr ∧ Blk wr w.heap.size 38 #[.int .i64 R, .int .i64 C, .slice a m cap]) (fun i _ => n - (intOf i).toNat)
  case atStart => exact ⟨⟨0, [], Nat.zero_le _, rfl, rfl, by simpa [partL] using HO.out, (fun i r h => by simp at h), HB.out⟩, K1.out⟩
  case round =>
    obtain ⟨⟨k, rs, hk, rfl, hy, ho, hr, hbl⟩, k1⟩ := hrel
    have K1' := Lib.hid k1
    obtain ⟨p0, p1, p2, p3⟩ := tb k1
    have HY := Lib.hid hy
    have HO' := Lib.hid ho
    have HRS := Lib.hid hr
    have HL := Lib.hid hbl
    have hk0 : (0 : Int) ≤ (k : Int) := by omega
    clear hy ho hr hbl k1
    by_cases hlt : k < n
    · have hlt' : (k : Int) < (n : Int) := by omega
      go_wp2_with fail
      clear p0 p1 p2 p3
      refine (HG.out k _ hlt HL.out).mono ?_
      rintro e w2 ⟨b2, c2, rfl, hf, hb⟩
      have HQ := Lib.hid hf.isFloats
      have HBa := Lib.hid hb
      have HL2 := Lib.hid (HL.out.trans (hb.mono HL.out.size))
      clear hf hb
      go_wp2_with fail
      refine (HC.out k b2 c2 _ hlt HL2.out HQ.out).mono ?_
      rintro e w3 ⟨b3, c3, ys, rfl, hf, hm, hb⟩
      have HB2 := Lib.hid (HBa.out.trans (hb.mono HBa.out.size))
      have HRW := Lib.hid (show (LRow.mk b3 c3 ys).ok w3 (w.heap.size + 1 + 1) (rowOf k) from ⟨hf.base (by
        have h1 := HO'.out.lt (w.heap.size + 1) rfl
        have h2 := HBa.out.size
        omega), hm⟩)
      clear hf hm hb
      obtain ⟨hfz, v0, hv0⟩ := rows_cell hlt HO'.out HB2.out
      go_wp2_with fail
      go_roundw
      case rel =>
        have kk := K1'.out.below HB2.out
        exact ⟨rows_step (r := ⟨b3, c3, ys⟩) (Nat.le_succ _) HY.out hlt HO'.out HRS.out HL.out HB2.out HRW.out, kk.off (g' := w.heap.size + 1) ⟨rfl, rfl, rfl, by simp, fun k _ hk => Below.heap_setCell _ _ _ k (fun e => hk (by simp [e]))⟩ (by omega)⟩
      case measure => simp [intOf]; omega
    · obtain rfl : k = n := by omega
      go_wp2_with fail
      go_ret
      have ho := HO'.out
      have e : partL rs k = rs.map LRow.val := by rw [← HY.out]; exact partL_all rs
      rw [e] at ho
      exact ⟨w.heap.size + 1, rs, rfl, HY.out, ho, fun i r hr => ⟨(HRS.out i r hr).1.base (by omega), (HRS.out i r hr).2⟩, HL.out⟩
set_option maxRecDepth 20000 in
set_option maxHeartbeats 1000000 in
theorem c_grow (n : Nat) (w : World) (h1 : 1 ≤ n) (hn : n ≤ 256) :
    Calls Try.prog 151 #[.slice none 0 0, .int .i64 n] w fun e w' => ∃ b c, e = .returned (.slice b 0 c) ∧ OwnF w' w.heap.size b c [] ∧ Below w.heap.size w w' := by
  obtain ⟨i0, hi, hz0, hz1, hz2⟩ := info_parts info_f32
  have g1 : ¬ ((n : Int) < 0) := by omega
  have g2 : (n : Int) > 0 := by omega
  have hrz : ∀ ty, (Builtin.append_ #[25, 3] ty #[.slice none 0 0, .int .i64 (n : Int)]).run Try.prog w =
      .ok (.slice (some ⟨w.heap.size, 0, none⟩) n (grownCap w n 0 67)) (w.drew.alloc (.cells (#[] ++ Builtin.zeroCells (Value.cells (.float .f32 0)) n ++ Builtin.zeroCells (Value.cells (.float .f32 0)) (grownCap w n 0 67 - n)) 67)) := fun ty => by
    have h := Lib.run_append_grow_zeros w 25 3 ty 67 i0 (.float .f32 0) .i64 .i64 Try.underlying25 Try.underlying3 hi hz0 none 0 0 [] (run_firstCells_none w.drew i0.size 0 0 0) n (by omega) (by rw [hz1]; decide) (by omega) (by omega)
      (by rw [hz2]; omega) (by rw [hz2, Nat.zero_add]; exact growslice_fits (by omega) (by omega))
    rw [Nat.zero_add] at h
    exact h
  have hGn : n ≤ grownCap w n 0 67 := grownCap_ge w _ _ _
  obtain ⟨G, hG⟩ : ∃ G, grownCap w n 0 67 = G := ⟨_, rfl⟩
  have hG63 : G ≤ maxLen := by rw [← hG]; exact grownCap_le_maxLen w n 0 _ (by unfold maxLen; omega)
  rw [hG] at hrz hGn
  have hGm : G ≤ 9223372036854775807 := by unfold maxLen at hG63; omega
  have HGM := Lib.hid hG63
  obtain ⟨cs, hcs⟩ : ∃ cs, (#[] ++ Builtin.zeroCells (Value.cells (.float .f32 0)) n ++ Builtin.zeroCells (Value.cells (.float .f32 0)) (G - n)) = cs := ⟨_, rfl⟩
  have hsz : cs.size = G := by rw [← hcs]; simp [Builtin.zeroCells, Value.cells]; omega
  rw [hcs] at hrz
  have HSZ := Lib.hid hsz
  clear hG hcs hsz hG63 hi hz0 hz1 hz2
  go_enter Try.func151, Try.ntmps151
  go_wp2_with (at_builtin; refine Lib.wpList_append_run _ rfl _ _ _ _ rfl _ _ rfl rfl _ _ (hrz _) ?_)
  go_ret
  refine ⟨some ⟨w.heap.size, 0, none⟩, G, rfl, ⟨⟨rfl, .inr ⟨w.heap.size, G, cs, rfl, Nat.le_refl _, ?_, Nat.zero_le _, HGM.out, by rw [HSZ.out, Nat.mul_one], by simp⟩⟩, fun _ h => by cases h⟩, ((Below.refl _ _).drew).alloc (Nat.le_refl _) _⟩
  exact heap_alloc_new _ _
theorem LRow.reads {w : World} {B : Nat} {zs : List Nat} {r : LRow} (h : r.ok w B zs) : Reads w w.heap.size 1 r.b r.ys.length (r.ys.map (Value.float .f32)) := h.1.isFloats.reads
/-- the first k rows, one behind the other -/
def catL (rs : List LRow) (k : Nat) : List Nat := (rs.take k).flatMap LRow.ys
theorem catL_succ {rs : List LRow} {k : Nat} {r : LRow} (h : rs[k]? = some r) : catL rs (k + 1) = catL rs k ++ r.ys := by
  unfold catL
  rw [List.take_add_one, h, List.flatMap_append]
  simp
theorem catL_length {rs : List LRow} {C : Nat} (h : ∀ r ∈ rs, r.ys.length = C) (k : Nat) (hk : k ≤ rs.length) : (catL rs k).length = k * C := by
  induction k with
  | zero => simp [catL]
  | succ k ih =>
    have hr : rs[k]? = some rs[k] := List.getElem?_eq_getElem (by omega)
    rw [catL_succ hr, List.length_append, ih (by omega), h _ (List.getElem_mem _), Nat.add_mul, Nat.one_mul]
theorem catL_map {rs : List LRow} {w : World} {B : Nat} {rowOf : Nat → List Nat} (h : AllOk w B rowOf rs) (k : Nat) (hk : k ≤ rs.length) : (catL rs k).map (canon .f32) = (List.range k).flatMap rowOf := by
  induction k with
  | zero => simp [catL]
  | succ k ih =>
    have hr : rs[k]? = some rs[k] := List.getElem?_eq_getElem (by omega)
    rw [catL_succ hr, List.map_append, ih (by omega), (h _ _ hr).2, List.range_succ, List.flatMap_append]
    simp
def CatRel (rs : List LRow) (n : Nat) (B : Nat) (w : World) (s i : Value) (wr : World) : Prop :=
  ∃ (k : Nat) (b : Option Addr) (cp : Nat), k ≤ n ∧ i = .int .i64 k ∧ s = .slice b (catL rs k).length cp ∧ OwnF wr B b cp (catL rs k) ∧ Below w.heap.size w wr
theorem cat_next {w wr w5 : World} {B : Nat} {b a' : Option Addr} {cp c' m : Nat} {tl cl : List Nat} (ho : OwnF wr B b cp tl) (hc : ∀ y ∈ cl, y < 2 ^ 32)
    (hown : w5.ownsRow B 67 1 (.slice a' (tl.length + m) c') (tl.length + m) (tl.map (Value.float .f32) ++ cl.map (Value.float .f32))) (hgr : wr.grownBy w5 (Value.ownBlock (.slice b tl.length cp)))
    (hm : cl.length = m) (hB : w.heap.size ≤ B) (hl : Below w.heap.size w wr) :
    OwnF w5 B a' c' (tl ++ cl) ∧ Below w.heap.size w w5 := by
  subst hm
  rw [ownBlock_slice] at hgr
  refine ⟨⟨by simpa using hown, fun y hy => ?_⟩, hl.grown hgr hl.size (fun g h => Nat.le_trans hB (ho.lt g h).1)⟩
  rcases List.mem_append.1 hy with h | h
  · exact ho.2 y h
  · exact hc y h
set_option maxRecDepth 20000 in
set_option maxHeartbeats 1000000 in
theorem c_concat (g n C B : Nat) (rs : List LRow) (rowOf : Nat → List Nat) (w : World) (hlen : rs.length = n) (h1 : 1 ≤ n) (hC : 1 ≤ C) (hnC : n * C ≤ 256) (hrow : ∀ i, i < n → (rowOf i).length = C)
    (ho : w.ownsRow B 25 1 (.slice (some ⟨g, 0, none⟩) n n) n (rs.map LRow.val)) (hr : AllOk w B rowOf rs) :
    Calls Try.prog 112 #[.slice (some ⟨g, 0, none⟩) n n] w (RetLs ((List.range n).flatMap rowOf) w) := by
  have hn : n ≤ 256 := by have := Nat.mul_le_mul_left n hC; omega
  have hyl : ∀ r ∈ rs, r.ys.length = C := by
    intro r hr'
    obtain ⟨i, hi, rfl⟩ := List.mem_iff_getElem.1 hr'
    have h := (hr i _ (List.getElem?_eq_getElem hi)).2
    have h2 := congrArg List.length h
    rw [List.length_map, hrow i (by omega)] at h2
    exact h2
  have hcl : ∀ k, k ≤ n → (catL rs k).length = k * C := fun k hk => catL_length hyl k (by omega)
  have hcell : ∀ k, k < n → ∃ r, rs[k]? = some r ∧ w.cell? ⟨g, k, none⟩ = some (.slice r.b C r.c) := by
    intro k hk
    have hr' : rs[k]? = some rs[k] := List.getElem?_eq_getElem (by omega)
    refine ⟨_, hr', ?_⟩
    rw [ho.cellAt k (by omega), List.getElem?_map, hr']
    show some (LRow.val rs[k]) = _
    unfold LRow.val
    rw [hyl _ (List.getElem_mem _)]
  have HCELL := Lib.hid hcell
  have HCL := Lib.hid hcl
  have HYL := Lib.hid hyl
  have HR := Lib.hid hr
  have HMAP := Lib.hid (catL_map hr n (by omega))
  have hg : g < w.heap.size := (ho.lt g rfl).2
  obtain ⟨i0, hi, hz0, hz1, hz2⟩ := info_parts info_f32
  have HI := Lib.hid hi
  have HZ0 := Lib.hid hz0
  have HZ1 := Lib.hid hz1
  have HZ2 := Lib.hid hz2
  have hkC : ∀ k, k < n → k * C + C ≤ 256 := fun k hk => by
    have e1 : (k + 1) * C ≤ n * C := Nat.mul_le_mul_right C hk
    have e2 : (k + 1) * C = k * C + C := by rw [Nat.add_mul, Nat.one_mul]
    omega
  have HKC := Lib.hid hkC
  have HLEN := Lib.hid hlen
  have hC256 : C ≤ 256 := by have := Nat.mul_le_mul_right C h1; omega
  have HNC := Lib.hid hnC
  have hnC1 : 1 ≤ n * C := Nat.mul_le_mul h1 hC
  have HNC1 := Lib.hid hnC1
  clear hcell hcl hyl hr ho hi hz0 hz1 hz2 hkC hlen hnC hrow hnC1
  go_enter Try.func112, Try.ntmps112
  go_wp2_with fail
  go_loop [3, 11] (fun s i => ∃ k : Nat, k ≤ n ∧ i = .int .i64 k ∧ s = .int .i64 ((k * C : Nat) : Int)) (fun _ i => n - (intOf i).toNat)
  case atStart => exact ⟨0, Nat.zero_le _, rfl, by rw [Nat.zero_mul]; rfl⟩
  case round =>
    obtain ⟨k, hk, rfl, rfl⟩ := hrel
    by_cases hlt : k < n
    · have hlt' : (k : Int) < (n : Int) := by omega
      obtain ⟨r, hr, hc⟩ := HCELL.out k hlt
      have HR' := Lib.hid hr
      have hkk := HKC.out k hlt
      obtain ⟨P, hP⟩ : ∃ P, k * C = P := ⟨_, rfl⟩
      have HP := Lib.hid hP
      rw [hP] at hkk ⊢
      have q1 : ¬ ((P : Int) + (C : Int) < 0) := by omega
      clear hr hP
      go_wp2_with fail
      go_round
      case rel => exact ⟨k + 1, by omega, by go_num, by rw [Nat.add_mul, Nat.one_mul, HP.out]; go_num⟩
      case measure => simp [intOf]; omega
    · obtain rfl : k = n := by omega
      obtain ⟨P, hP⟩ : ∃ P, k * C = P := ⟨_, rfl⟩
      have HP := Lib.hid hP
      rw [hP]
      have hp1 : 1 ≤ P := by rw [← hP]; exact HNC1.out
      have hp2 : P ≤ 256 := by rw [← hP]; exact HNC.out
      clear hP
      go_wp2_with fail
      refine (c_grow P _ hp1 hp2).mono ?_
      rintro e w1 ⟨b, c, rfl, hf, hb⟩
      have HF := Lib.hid hf
      have HB := Lib.hid hb
      clear hf hb
      go_wp2_with fail
      go_loopw [6, 27] (fun s i wr => CatRel rs k w.heap.size w s i wr) (fun _ i _ => k - (intOf i).toNat)
      case atStart => exact ⟨0, b, c, Nat.zero_le _, rfl, rfl, HF.out, HB.out⟩
      case round =>
        obtain ⟨j, b, cp, hj, rfl, rfl, ho, hbl⟩ := hrel
        have HO := Lib.hid ho
        have HL := Lib.hid hbl
        clear ho hbl
        by_cases hlt : j < k
        · have hlt' : (j : Int) < (k : Int) := by omega
          obtain ⟨r, hr, hc⟩ := HCELL.out j hlt
          have hc' : wr.cell? ⟨g, j, none⟩ = some (.slice r.b C r.c) := (HL.out.cell (p := ⟨g, j, none⟩) hg).trans hc
          have HRK := Lib.hid ((HR.out j r hr).kept HL.out)
          have HYC := Lib.hid (HYL.out r (List.mem_of_getElem? hr))
          have HSUC := Lib.hid (catL_succ hr)
          have HTL := Lib.hid (HCL.out j hj)
          have hkk := HKC.out j hlt
          have A1 := Lib.hid (show (catL rs j).length + C ≤ 256 by rw [HCL.out j hj]; exact hkk)
          have HRD : Hid (Reads wr wr.heap.size 1 r.b C (r.ys.map (Value.float .f32))) := Lib.hid (by have := LRow.reads HRK.out; rw [HYC.out] at this; exact this)
          obtain ⟨tl, htl⟩ : ∃ tl, catL rs j = tl := ⟨_, rfl⟩
          rw [htl] at HO HSUC HTL A1 ⊢
          clear hr hc htl hkk
          go_wp2_with (at_builtin; refine wpList_append_any _ rfl (.tmp 31) (.tmp 32) _ rfl w.heap.size 67 i0 _ 1 4 Try.underlying25 HI.out HZ0.out HZ1.out HZ2.out rfl (by omega) (.slice b tl.length cp) tl.length _ rfl HO.out.1 _ _ C r.c _ rfl HRD.out (ones_f32 _) ?c1 ?c2 (HL.out.size) ?_)
          case c1 => have := A1.out; unfold maxLen; omega
          case c2 => have := A1.out; omega
          intro v' w5 hown hgr hat
          obtain ⟨a', c', rfl⟩ := ownsRow_slice hown
          have HT := Lib.hid (cat_next HO.out HRK.out.1.2 hown hgr HYC.out (Nat.le_refl _) HL.out)
          clear hown hgr hat
          go_wp2_with fail
          go_roundw
          case rel =>
            obtain ⟨t1, t2⟩ := HT.out
            refine ⟨j + 1, a', c', by omega, by go_num, ?_, ?_, t2⟩
            · rw [HSUC.out, List.length_append, HYC.out]
            · rw [HSUC.out]; exact t1
          case measure => simp [intOf]; omega
        · obtain rfl : j = k := by omega
          go_wp2_with fail
          go_ret
          exact ⟨b, cp, catL rs j, rfl, HO.out, HMAP.out, HL.out⟩
end Go.Proofs.Ytpdgpoonblldgaa
