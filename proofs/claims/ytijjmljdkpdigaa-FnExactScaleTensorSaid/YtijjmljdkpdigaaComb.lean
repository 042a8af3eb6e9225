/-
  Tensors number by number, as the program makes them: by a function that is handed over. Conditions: the numbers can be read.
-/
import Derived.Test.YtijjmljdkpdigaaEach
namespace Go.Proofs.Ytijjmljdkpdigaa
open Go.RowKit Go.Deep Go.WideShapes Go.ChangeShapes

theorem c_sumOfTwo (x y : Nat) (w : World) : Calls Try.prog 72 #[.float .f32 x, .float .f32 y] w fun e w' => e = .returned (.float .f32 (fval .add .f32 x y w)) ∧ w' = w.drewN (fdr .add .f32 x y) := by
  go_enter Try.func72, Try.ntmps72
  go_wp2
  go_ret
  exact ⟨rfl, rfl⟩
theorem c_productOfTwo (x y : Nat) (w : World) : Calls Try.prog 74 #[.float .f32 x, .float .f32 y] w fun e w' => e = .returned (.float .f32 (fval .mul .f32 x y w)) ∧ w' = w.drewN (fdr .mul .f32 x y) := by
  go_enter Try.func74, Try.ntmps74
  go_wp2
  go_ret
  exact ⟨rfl, rfl⟩
theorem one_row (w : World) (x : Nat) (hx : x < 4294967296) : IsFloats .f32 (w.alloc (.cells #[.float .f32 x] 31)) (some ⟨w.heap.size, 0, none⟩) 1 1 [x] := by
  refine ⟨Nat.le_refl _, by decide, rfl, fun y hy => ?_, .inr ⟨_, _, rfl, by simp, fun i hi => ?_⟩⟩
  · simp at hy; subst hy; exact hx
  · obtain rfl : i = 0 := by omega
    exact (Blk.new w 31 #[.float .f32 x]).cell 0
theorem mod_self_map {n m : Nat} (h : n = m) (f : Nat → Nat → Nat) : ((List.range n).map fun i => f i (i % m)) = (List.range n).map fun i => f i i := by
  subst h
  refine List.map_congr_left fun i hi => ?_
  rw [Nat.mod_eq_of_lt (List.mem_range.1 hi)]
/-- the first k of n numbers are made, in a row of the call's own -/
def part (ys : List Nat) (n : Nat) : List Value := ys.map (Value.float .f32) ++ List.replicate (n - ys.length) (Value.float .f32 0)
theorem part_set (ys : List Nat) (n v : Nat) (h : ys.length < n) : (part ys n).set ys.length (.float .f32 v) = part (ys ++ [v]) n := by
  unfold part
  rw [List.set_append_right _ _ (by simp), List.length_map, Nat.sub_self]
  obtain ⟨m, hm⟩ : ∃ m, n - ys.length = m + 1 := ⟨n - ys.length - 1, by omega⟩
  rw [hm, List.replicate_succ, List.set_cons_zero, show n - (ys ++ [v]).length = m by simp; omega]
  simp
def CombRel (R C : Int) (a : Option Addr) (cap : Nat) (f : Nat → Nat) (n : Nat) (w : World) (i : Value) (wr : World) : Prop :=
  ∃ (k : Nat) (ys : List Nat), k ≤ n ∧ i = .int .i64 k ∧ ys.length = k ∧ wr.ownsRow w.heap.size 31 1 (.slice (some ⟨w.heap.size + 1 + 1, 0, none⟩) n n) n (part ys n) ∧ (∀ y ∈ ys, y < 2 ^ 32) ∧ ys.map (canon .f32) = (List.range k).map f ∧ Below w.heap.size w wr ∧
    Blk wr w.heap.size 27 #[.int .i64 R, .int .i64 C, .slice a n cap] ∧ Blk wr (w.heap.size + 1) 27 #[.int .i64 0, .int .i64 0, .slice none 0 0]
theorem comb_step {R C : Int} {a : Option Addr} {cap : Nat} {f : Nat → Nat} {n k m v : Nat} {w wr w' : World} {ys : List Nat} (hy : ys.length = k) (hk : k < n) (ho : wr.ownsRow w.heap.size 31 1 (.slice (some ⟨w.heap.size + 1 + 1, 0, none⟩) n n) n (part ys n)) (ht : ∀ y ∈ ys, y < 2 ^ 32)
    (he : ys.map (canon .f32) = (List.range k).map f) (hl : Below w.heap.size w wr) (k1 : Blk wr w.heap.size 27 #[.int .i64 R, .int .i64 C, .slice a n cap]) (k2 : Blk wr (w.heap.size + 1) 27 #[.int .i64 0, .int .i64 0, .slice none 0 0])
    (hv : v < 2 ^ 32) (hc : canon .f32 v = f k) (hw : w' = (wr.drewN m).setCell ⟨w.heap.size + 1 + 1, k, none⟩ (.float .f32 v)) :
    CombRel R C a cap f n w (.int .i64 ((k : Int) + 1)) w' := by
  subst hw
  have ho' : (wr.drewN m).ownsRow w.heap.size 31 1 (.slice (some ⟨w.heap.size + 1 + 1, 0, none⟩) n n) n (part ys n) := ho
  obtain ⟨o1, o2⟩ := ho'.stored k (.float .f32 v)
  have o1' := o1
  rw [← hy, part_set ys n v (by omega)] at o1'
  have k1' : Blk (wr.drewN m) w.heap.size 27 #[.int .i64 R, .int .i64 C, .slice a n cap] := k1
  have k2' : Blk (wr.drewN m) (w.heap.size + 1) 27 #[.int .i64 0, .int .i64 0, .slice none 0 0] := k2
  refine ⟨k + 1, ys ++ [v], by omega, by go_num, by simp [hy], by rw [← hy]; exact o1', ?_, ?_, (below_drewN hl m).setCell (by simp; omega) _, k1'.off o2 (by omega), k2'.off o2 (by omega)⟩
  · intro y h
    rcases List.mem_append.1 h with h | h
    · exact ht y h
    · simp at h; subst h; exact hv
  · rw [List.map_append, he, List.range_succ, List.map_append]
    simp [hc]
theorem comb_end {R C : Int} {f : Nat → Nat} {n : Nat} {w wr : World} {ys : List Nat} (hy : ys.length = n) (ho : wr.ownsRow w.heap.size 31 1 (.slice (some ⟨w.heap.size + 1 + 1, 0, none⟩) n n) n (part ys n)) (ht : ∀ y ∈ ys, y < 2 ^ 32)
    (he : ys.map (canon .f32) = (List.range n).map f) (hl : Below w.heap.size w wr) (k2 : Blk wr (w.heap.size + 1) 27 #[.int .i64 0, .int .i64 0, .slice none 0 0]) :
    RetV R C ((List.range n).map f) w (.returned (.agg #[.int .i64 R, .int .i64 C, .slice (some ⟨w.heap.size + 1 + 1, 0, none⟩) n n])) (((wr.setCell ⟨w.heap.size + 1, 0, none⟩ (.int .i64 R)).setCell ⟨w.heap.size + 1, 1, none⟩ (.int .i64 C)).setCell ⟨w.heap.size + 1, 2, none⟩ (.slice (some ⟨w.heap.size + 1 + 1, 0, none⟩) n n)) := by
  subst hy
  have e : part ys ys.length = ys.map (Value.float .f32) := by simp [part]
  rw [e] at ho
  exact ⟨_, _, ys, rfl, OwnF.off ⟨ho, ht⟩ (store3 k2).2 k2 (by decide), he, ((hl.setCell (by simp) _).setCell (by simp) _).setCell (by simp) _⟩
set_option maxHeartbeats 2000000 in
theorem c_combineSum (R C : Int) (a a2 : Option Addr) (n cap m cap2 : Nat) (zs xs : List Nat) (w : World) (h : IsFloats .f32 w a n cap zs) (h' : IsFloats .f32 w a2 m cap2 xs) (hn : n ≤ 256) (hm : 1 ≤ m) (hm' : m ≤ 256) :
    Calls Try.prog 79 #[.agg #[.int .i64 R, .int .i64 C, .slice a n cap], .slice a2 m cap2, .func (.func 72) #[] #[]] w (RetV R C ((List.range n).map fun i => cop .add .f32 (canon .f32 (zs.getD i 0)) (canon .f32 (xs.getD (i % m) 0))) w) := by
  have HF := Lib.hid h
  have HF' := Lib.hid h'
  obtain ⟨i0, hi, hz0, hz1, hz2⟩ := info_parts info_f32
  have HI := Lib.hid hi
  have HZ0 := Lib.hid hz0
  have HZ1 := Lib.hid hz1
  have HZ2 := Lib.hid hz2
  clear h h' hi hz0 hz1 hz2
  go_enter Try.func79, Try.ntmps79
  go_wp2_with (at_make; refine wpList_make_full _ rfl _ _ 22 rfl w.heap.size 31 i0 (.float .f32 0) 1 Try.underlying22 HI.out HZ0.out HZ1.out _ _ _ _ n rfl rfl rfl rfl ?c1 ?c2 ?c3 ?_)
  case c1 => rw [HZ2.out]; omega
  case c2 => unfold maxLen; omega
  case c3 => simp; omega
  intro w1 hown hgrow
  have hb0 : Below w.heap.size w ((w.alloc (.cells #[.int .i64 R, .int .i64 C, .slice a n cap] 27)).alloc (.cells #[.int .i64 0, .int .i64 0, .slice none 0 0] 27)) := ((Below.refl _ _).alloc (Nat.le_refl _) _).alloc (by simp) _
  have hb1 := hb0.grown hgrow (by simp; omega) (fun k h => by cases h)
  rw [toList_madeCells_one] at hown
  have k1 := ((Blk.new w 27 #[.int .i64 R, .int .i64 C, .slice a n cap]).below ((Below.refl _ _).alloc (Nat.le_refl _) (.cells #[.int .i64 0, .int .i64 0, .slice none 0 0] 27)))
  have k1 : Blk w1 w.heap.size 27 #[.int .i64 R, .int .i64 C, .slice a n cap] := (hgrow.block _ k1.lt (by simp)).trans k1
  have k2 := Blk.new (w.alloc (.cells #[.int .i64 R, .int .i64 C, .slice a n cap] 27)) 27 #[.int .i64 0, .int .i64 0, .slice none 0 0]
  have k2 : Blk w1 (w.heap.size + 1) 27 #[.int .i64 0, .int .i64 0, .slice none 0 0] := by
    have := (hgrow.block _ k2.lt (by simp)).trans k2
    simp only [World.size_alloc] at this
    exact this
  have K1 := Lib.hid k1
  have K2 := Lib.hid k2
  have HO := Lib.hid hown
  have HB := Lib.hid hb1
  obtain ⟨p0, p1, p2, p3⟩ := tb k1
  clear hown hgrow hb0 hb1 k1 k2
  go_wp2_with fail
  clear p0 p1 p2 p3
  go_loopw [17] (fun i wr => CombRel R C a cap (fun i => cop .add .f32 (canon .f32 (zs.getD i 0)) (canon .f32 (xs.getD (i % m) 0))) n w i wr) (fun i _ => n - (intOf i).toNat)
  case atStart => exact ⟨0, [], Nat.zero_le _, rfl, rfl, by simpa [part] using HO.out, (fun _ h => by cases h), rfl, HB.out, K1.out, K2.out⟩
  case round =>
    obtain ⟨k, ys, hk, rfl, hy, ho, hlt2, he, hbl, k1, k2⟩ := hrel
    have HY := Lib.hid hy
    have HO' := Lib.hid ho
    have HT := Lib.hid hlt2
    have HE := Lib.hid he
    have HL := Lib.hid hbl
    have K1' := Lib.hid k1
    have K2' := Lib.hid k2
    obtain ⟨p0, p1, p2, p3⟩ := tb k1
    obtain ⟨q0, q1, q2, q3⟩ := tb k2
    obtain ⟨f0, f1, f2⟩ := tbf k2
    have hk0 : (0 : Int) ≤ (k : Int) := by omega
    clear hy ho hlt2 he hbl k1 k2
    by_cases hlt : k < n
    · have hlt' : (k : Int) < (n : Int) := by omega
      rcases HF.out.2.2.2.2 with h' | ⟨ab, off, rfl, hab, hcell⟩
      · omega
      rcases HF'.out.2.2.2.2 with h' | ⟨ab2, off2, rfl, hab2, hcell2⟩
      · omega
      obtain ⟨q, hq⟩ : ∃ q, k % m = q := ⟨_, rfl⟩
      have HQ := Lib.hid hq
      have hqC : q < m := by rw [← hq]; exact Nat.mod_lt _ (by omega)
      clear hq
      have hx : wr.cell? ⟨ab, off + k, none⟩ = some (.float .f32 (zs.getD k 0)) := (HL.out.cell (p := ⟨ab, off + k, none⟩) hab).trans (hcell k hlt)
      have hx2 : wr.cell? ⟨ab2, off2 + q, none⟩ = some (.float .f32 (xs.getD q 0)) := (HL.out.cell (p := ⟨ab2, off2 + q, none⟩) hab2).trans (hcell2 q hqC)
      obtain ⟨z, hz⟩ : ∃ z, zs.getD k 0 = z := ⟨_, rfl⟩
      rw [hz] at hx
      have HZ := Lib.hid hz
      obtain ⟨y, hy⟩ : ∃ z, xs.getD q 0 = z := ⟨_, rfl⟩
      rw [hy] at hx2
      have HY2 := Lib.hid hy
      have j6 : ((k : Int).tmod (m : Int)) = (q : Int) := by rw [Int.tmod_eq_emod_of_nonneg (by omega), ← HQ.out]; exact (Int.natCast_emod k m).symm
      have j6' : ((k : Int) % (m : Int)) = (q : Int) := by rw [← HQ.out]; exact (Int.natCast_emod k m).symm
      have j7 : ¬ m = 0 := by omega
      have j8 : (q : Int) < (m : Int) := by omega
      have j9 : (0 : Int) ≤ (q : Int) := by omega
      have hfz : wr.frozen? ⟨w.heap.size + 1 + 1, k, none⟩ = false := HO'.out.frozenAt k
      obtain ⟨v0, hv0⟩ : ∃ v, wr.cell? ⟨w.heap.size + 1 + 1, k, none⟩ = some v := by
        rw [HO'.out.cellAt k (by omega)]
        exact ⟨_, List.getElem?_eq_getElem (by rw [HO'.out.1]; omega)⟩
      clear hcell hcell2 hz hy
      go_wp2_with go_in
      go_roundw
      case rel =>
        have o := (HO'.out.stored k (.float .f32 (fval .add .f32 z y wr)))
        exact comb_step HY.out hlt HO'.out HT.out HE.out HL.out K1'.out K2'.out (fval_lt .add .f32 z y wr) (by rw [canon_fval, ← HZ.out, ← HY2.out, ← HQ.out]) rfl
      case measure => simp [intOf]; omega
    · obtain rfl : k = n := by omega
      go_wp2_with fail
      exact bodyPost_ret (v := .agg #[.int .i64 R, .int .i64 C, .slice (some ⟨w.heap.size + 1 + 1, 0, none⟩) k k]) (by simp [results, Try.results79, go_sem, q0, q1, q2]) rfl (comb_end HY.out HO'.out HT.out HE.out HL.out K2'.out)
set_option maxHeartbeats 2000000 in
theorem c_combineProd (R C : Int) (a a2 : Option Addr) (n cap m cap2 : Nat) (zs xs : List Nat) (w : World) (h : IsFloats .f32 w a n cap zs) (h' : IsFloats .f32 w a2 m cap2 xs) (hn : n ≤ 256) (hm : 1 ≤ m) (hm' : m ≤ 256) :
    Calls Try.prog 79 #[.agg #[.int .i64 R, .int .i64 C, .slice a n cap], .slice a2 m cap2, .func (.func 74) #[] #[]] w (RetV R C ((List.range n).map fun i => cop .mul .f32 (canon .f32 (zs.getD i 0)) (canon .f32 (xs.getD (i % m) 0))) w) := by
  have HF := Lib.hid h
  have HF' := Lib.hid h'
  obtain ⟨i0, hi, hz0, hz1, hz2⟩ := info_parts info_f32
  have HI := Lib.hid hi
  have HZ0 := Lib.hid hz0
  have HZ1 := Lib.hid hz1
  have HZ2 := Lib.hid hz2
  clear h h' hi hz0 hz1 hz2
  go_enter Try.func79, Try.ntmps79
  go_wp2_with (at_make; refine wpList_make_full _ rfl _ _ 22 rfl w.heap.size 31 i0 (.float .f32 0) 1 Try.underlying22 HI.out HZ0.out HZ1.out _ _ _ _ n rfl rfl rfl rfl ?c1 ?c2 ?c3 ?_)
  case c1 => rw [HZ2.out]; omega
  case c2 => unfold maxLen; omega
  case c3 => simp; omega
  intro w1 hown hgrow
  have hb0 : Below w.heap.size w ((w.alloc (.cells #[.int .i64 R, .int .i64 C, .slice a n cap] 27)).alloc (.cells #[.int .i64 0, .int .i64 0, .slice none 0 0] 27)) := ((Below.refl _ _).alloc (Nat.le_refl _) _).alloc (by simp) _
  have hb1 := hb0.grown hgrow (by simp; omega) (fun k h => by cases h)
  rw [toList_madeCells_one] at hown
  have k1 := ((Blk.new w 27 #[.int .i64 R, .int .i64 C, .slice a n cap]).below ((Below.refl _ _).alloc (Nat.le_refl _) (.cells #[.int .i64 0, .int .i64 0, .slice none 0 0] 27)))
  have k1 : Blk w1 w.heap.size 27 #[.int .i64 R, .int .i64 C, .slice a n cap] := (hgrow.block _ k1.lt (by simp)).trans k1
  have k2 := Blk.new (w.alloc (.cells #[.int .i64 R, .int .i64 C, .slice a n cap] 27)) 27 #[.int .i64 0, .int .i64 0, .slice none 0 0]
  have k2 : Blk w1 (w.heap.size + 1) 27 #[.int .i64 0, .int .i64 0, .slice none 0 0] := by
    have := (hgrow.block _ k2.lt (by simp)).trans k2
    simp only [World.size_alloc] at this
    exact this
  have K1 := Lib.hid k1
  have K2 := Lib.hid k2
  have HO := Lib.hid hown
  have HB := Lib.hid hb1
  obtain ⟨p0, p1, p2, p3⟩ := tb k1
  clear hown hgrow hb0 hb1 k1 k2
  go_wp2_with fail
  clear p0 p1 p2 p3
  go_loopw [17] (fun i wr => CombRel R C a cap (fun i => cop .mul .f32 (canon .f32 (zs.getD i 0)) (canon .f32 (xs.getD (i % m) 0))) n w i wr) (fun i _ => n - (intOf i).toNat)
  case atStart => exact ⟨0, [], Nat.zero_le _, rfl, rfl, by simpa [part] using HO.out, (fun _ h => by cases h), rfl, HB.out, K1.out, K2.out⟩
  case round =>
    obtain ⟨k, ys, hk, rfl, hy, ho, hlt2, he, hbl, k1, k2⟩ := hrel
    have HY := Lib.hid hy
    have HO' := Lib.hid ho
    have HT := Lib.hid hlt2
    have HE := Lib.hid he
    have HL := Lib.hid hbl
    have K1' := Lib.hid k1
    have K2' := Lib.hid k2
    obtain ⟨p0, p1, p2, p3⟩ := tb k1
    obtain ⟨q0, q1, q2, q3⟩ := tb k2
    obtain ⟨f0, f1, f2⟩ := tbf k2
    have hk0 : (0 : Int) ≤ (k : Int) := by omega
    clear hy ho hlt2 he hbl k1 k2
    by_cases hlt : k < n
    · have hlt' : (k : Int) < (n : Int) := by omega
      rcases HF.out.2.2.2.2 with h' | ⟨ab, off, rfl, hab, hcell⟩
      · omega
      rcases HF'.out.2.2.2.2 with h' | ⟨ab2, off2, rfl, hab2, hcell2⟩
      · omega
      obtain ⟨q, hq⟩ : ∃ q, k % m = q := ⟨_, rfl⟩
      have HQ := Lib.hid hq
      have hqC : q < m := by rw [← hq]; exact Nat.mod_lt _ (by omega)
      clear hq
      have hx : wr.cell? ⟨ab, off + k, none⟩ = some (.float .f32 (zs.getD k 0)) := (HL.out.cell (p := ⟨ab, off + k, none⟩) hab).trans (hcell k hlt)
      have hx2 : wr.cell? ⟨ab2, off2 + q, none⟩ = some (.float .f32 (xs.getD q 0)) := (HL.out.cell (p := ⟨ab2, off2 + q, none⟩) hab2).trans (hcell2 q hqC)
      obtain ⟨z, hz⟩ : ∃ z, zs.getD k 0 = z := ⟨_, rfl⟩
      rw [hz] at hx
      have HZ := Lib.hid hz
      obtain ⟨y, hy⟩ : ∃ z, xs.getD q 0 = z := ⟨_, rfl⟩
      rw [hy] at hx2
      have HY2 := Lib.hid hy
      have j6 : ((k : Int).tmod (m : Int)) = (q : Int) := by rw [Int.tmod_eq_emod_of_nonneg (by omega), ← HQ.out]; exact (Int.natCast_emod k m).symm
      have j6' : ((k : Int) % (m : Int)) = (q : Int) := by rw [← HQ.out]; exact (Int.natCast_emod k m).symm
      have j7 : ¬ m = 0 := by omega
      have j8 : (q : Int) < (m : Int) := by omega
      have j9 : (0 : Int) ≤ (q : Int) := by omega
      have hfz : wr.frozen? ⟨w.heap.size + 1 + 1, k, none⟩ = false := HO'.out.frozenAt k
      obtain ⟨v0, hv0⟩ : ∃ v, wr.cell? ⟨w.heap.size + 1 + 1, k, none⟩ = some v := by
        rw [HO'.out.cellAt k (by omega)]
        exact ⟨_, List.getElem?_eq_getElem (by rw [HO'.out.1]; omega)⟩
      clear hcell hcell2 hz hy
      go_wp2_with go_in
      go_roundw
      case rel =>
        have o := (HO'.out.stored k (.float .f32 (fval .mul .f32 z y wr)))
        exact comb_step HY.out hlt HO'.out HT.out HE.out HL.out K1'.out K2'.out (fval_lt .mul .f32 z y wr) (by rw [canon_fval, ← HZ.out, ← HY2.out, ← HQ.out]) rfl
      case measure => simp [intOf]; omega
    · obtain rfl : k = n := by omega
      go_wp2_with fail
      exact bodyPost_ret (v := .agg #[.int .i64 R, .int .i64 C, .slice (some ⟨w.heap.size + 1 + 1, 0, none⟩) k k]) (by simp [results, Try.results79, go_sem, q0, q1, q2]) rfl (comb_end HY.out HO'.out HT.out HE.out HL.out K2'.out)
end Go.Proofs.Ytijjmljdkpdigaa
