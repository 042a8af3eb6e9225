/-
  Lists made number by number by a function that is handed over (eachOf, combineLists, takeLines): for any function with a contract. Conditions: the numbers can be read.
-/
import Derived.Test.YtkfpaehalfjhhaaRow
namespace Go.Proofs.Ytkfpaehalfjhhaa
open Go.RowKit Go.Deep Go.WideShapes Go.ChangeShapes

/-- a function of the text is entered when it is called -/
theorem enters_of {F : FuncId} {fn : Func} (hf : Try.prog.funcs[F]? = some fn) (hn : (fn.name == "runtime.NumGoroutine") = false) (hb : fn.body.isNone = false) (xs : Array Value) (wr : World) : (callFunc F xs).run Try.prog wr = .ok (.enter F xs) wr := by
  have h1 : ¬ fn.name = "runtime.NumGoroutine" := by simpa using hn
  have h2 : ¬ fn.body = none := by intro h; rw [h] at hb; cases hb
  simp [callFunc, hf, h1, h2]
/-- a number is returned -/
def RetX (v : Nat) (w : World) (e : Ending) (w' : World) : Prop := ∃ r, e = .returned (.float .f32 r) ∧ canon .f32 r = v ∧ r < 2 ^ 32 ∧ Below w.heap.size w w'
/-- a list is returned -/
def RetLs (zs : List Nat) (w : World) (e : Ending) (w' : World) : Prop := ∃ a cap ys, e = .returned (.slice a ys.length cap) ∧ OwnF w' w.heap.size a cap ys ∧ ys.map (canon .f32) = zs ∧ Below w.heap.size w w'
theorem RetX.of_RetF {v : Nat} {w : World} {e : Ending} {w' : World} (h : RetF .f32 v w e w') : RetX v w e w' := by
  obtain ⟨r, n, hc, hl, rfl, rfl⟩ := h
  exact ⟨r, rfl, hc, hl, below_drewN (Below.refl _ _) n⟩
/-- the first k of n numbers are made, in a row of the call's own -/
def partF (ys : List Nat) (n : Nat) : List Value := ys.map (Value.float .f32) ++ List.replicate (n - ys.length) (Value.float .f32 0)
theorem partF_set (ys : List Nat) (n v : Nat) (h : ys.length < n) : (partF ys n).set ys.length (.float .f32 v) = partF (ys ++ [v]) n := by
  unfold partF
  rw [List.set_append_right _ _ (by simp), List.length_map, Nat.sub_self]
  obtain ⟨m, hm⟩ : ∃ m, n - ys.length = m + 1 := ⟨n - ys.length - 1, by omega⟩
  rw [hm, List.replicate_succ, List.set_cons_zero, show n - (ys ++ [v]).length = m by simp; omega]
  simp
theorem partF_all (ys : List Nat) : partF ys ys.length = ys.map (Value.float .f32) := by simp [partF]
def FunRel (f : Nat → Nat) (n gd : Nat) (w : World) (i : Value) (wr : World) : Prop :=
  ∃ (k : Nat) (ys : List Nat), k ≤ n ∧ i = .int .i64 k ∧ ys.length = k ∧ wr.ownsRow w.heap.size 46 1 (.slice (some ⟨gd, 0, none⟩) n n) n (partF ys n) ∧ (∀ y ∈ ys, y < 2 ^ 32) ∧ ys.map (canon .f32) = (List.range k).map f ∧ Below w.heap.size w wr
theorem fun_step {f : Nat → Nat} {n gd k v : Nat} {w wr w2 : World} {ys : List Nat} (hgd : w.heap.size ≤ gd) (hy : ys.length = k) (hk : k < n) (ho : wr.ownsRow w.heap.size 46 1 (.slice (some ⟨gd, 0, none⟩) n n) n (partF ys n)) (ht : ∀ y ∈ ys, y < 2 ^ 32)
    (he : ys.map (canon .f32) = (List.range k).map f) (hl : Below w.heap.size w wr) (hb : Below wr.heap.size wr w2) (hv : v < 2 ^ 32) (hc : canon .f32 v = f k) :
    FunRel f n gd w (.int .i64 ((k : Int) + 1)) (w2.setCell ⟨gd, k, none⟩ (.float .f32 v)) := by
  have ho2 := ho.kept (row := none) ⟨hb.os, hb.tape, hb.output, hb.size, fun j hj _ => hb.block j hj⟩ (.inr (by simp [Value.ownBlock]))
  obtain ⟨o1, o2⟩ := ho2.stored k (.float .f32 v)
  rw [← hy, partF_set ys n v (by omega)] at o1
  refine ⟨k + 1, ys ++ [v], by omega, by go_num, by simp [hy], by rw [← hy]; exact o1, ?_, ?_, (hl.trans (hb.mono hl.size)).setCell hgd _⟩
  · intro y h
    rcases List.mem_append.1 h with h | h
    · exact ht y h
    · simp at h; subst h; exact hv
  · rw [List.map_append, he, List.range_succ, List.map_append]
    simp [hc]
theorem fun_cell {gd n k : Nat} {w wr w2 : World} {ys : List Nat} (hk : k < n) (ho : wr.ownsRow w.heap.size 46 1 (.slice (some ⟨gd, 0, none⟩) n n) n (partF ys n)) (hb : Below wr.heap.size wr w2) : w2.frozen? ⟨gd, k, none⟩ = false ∧ ∃ v, w2.cell? ⟨gd, k, none⟩ = some v := by
  have ho2 := ho.kept (row := none) ⟨hb.os, hb.tape, hb.output, hb.size, fun j hj _ => hb.block j hj⟩ (.inr (by simp [Value.ownBlock]))
  refine ⟨ho2.frozenAt k, ?_⟩
  rw [ho2.cellAt k (by omega)]
  exact ⟨_, List.getElem?_eq_getElem (by rw [ho2.1]; omega)⟩
theorem fun_end {f : Nat → Nat} {n gd : Nat} {w wr : World} {ys : List Nat} (hy : ys.length = n) (ho : wr.ownsRow w.heap.size 46 1 (.slice (some ⟨gd, 0, none⟩) n n) n (partF ys n)) (ht : ∀ y ∈ ys, y < 2 ^ 32)
    (he : ys.map (canon .f32) = (List.range n).map f) (hl : Below w.heap.size w wr) : RetLs ((List.range n).map f) w (.returned (.slice (some ⟨gd, 0, none⟩) n n)) wr := by
  subst hy
  rw [partF_all] at ho
  exact ⟨_, _, ys, rfl, ⟨ho, ht⟩, he, hl⟩

set_option maxRecDepth 20000 in
set_option maxHeartbeats 1000000 in
theorem c_eachOfIn (F : FuncId) (caps : Array Value) (f : Nat → Nat) (a : Option Addr) (n cap : Nat) (zs : List Nat) (w : World) (h : IsFloats .f32 w a n cap zs) (hn : n ≤ 1048576) (hE : ∀ (xs : Array Value) (wr : World), (callFunc F xs).run Try.prog wr = .ok (.enter F xs) wr)
    (hF : ∀ (x : Nat) (wr : World), x < 4294967296 → x ∈ zs → Below w.heap.size w wr → Calls Try.prog F (#[.float .f32 x] ++ caps) wr (RetX (f x) wr)) :
    Calls Try.prog 76 #[.slice a n cap, .func (.func F) #[] caps] w (RetLs ((List.range n).map fun i => f (zs.getD i 0)) w) := by
  have HF := Lib.hid h
  have HC := Lib.hid hF
  obtain ⟨i0, hi, hz0, hz1, hz2⟩ := info_parts info_f32
  have HI := Lib.hid hi
  have HZ0 := Lib.hid hz0
  have HZ1 := Lib.hid hz1
  have HZ2 := Lib.hid hz2
  clear h hF hi hz0 hz1 hz2
  go_enter Try.func76, Try.ntmps76
  go_wp2_with (at_make; refine wpList_make_full _ rfl _ _ 22 rfl w.heap.size 46 i0 (.float .f32 0) 1 Try.underlying22 HI.out HZ0.out HZ1.out _ _ _ _ n rfl rfl rfl rfl ?c1 ?c2 ?c3 ?_)
  case c1 => rw [HZ2.out]; omega
  case c2 => unfold maxLen; omega
  case c3 => exact Nat.le_refl _
  intro w1 hown hgrow
  have hb1 : Below w.heap.size w w1 := (Below.refl _ _).grown hgrow (Nat.le_refl _) (fun k h => by cases h)
  rw [toList_madeCells_one] at hown
  have HO := Lib.hid hown
  have HB := Lib.hid hb1
  clear hown hb1 hgrow
  go_wp2_with fail
  go_loopw [13] (fun i wr => FunRel (fun i => f (zs.getD i 0)) n w.heap.size w i wr) (fun i _ => n - (intOf i).toNat)
  case atStart => exact ⟨0, [], Nat.zero_le _, rfl, rfl, by simpa [partF] using HO.out, (fun _ h => by cases h), rfl, HB.out⟩
  case round =>
    obtain ⟨k, ys, hk, rfl, hy, ho, ht, he, hbl⟩ := hrel
    have HY := Lib.hid hy
    have HO' := Lib.hid ho
    have HT := Lib.hid ht
    have HE := Lib.hid he
    have HL := Lib.hid hbl
    have hk0 : (0 : Int) ≤ (k : Int) := by omega
    clear hy ho ht he hbl
    by_cases hlt : k < n
    · have hlt' : (k : Int) < (n : Int) := by omega
      rcases HF.out.2.2.2.2 with h' | ⟨ab, off, rfl, hab, hcell⟩
      · omega
      have hx : wr.cell? ⟨ab, off + k, none⟩ = some (.float .f32 (zs.getD k 0)) := (HL.out.cell (p := ⟨ab, off + k, none⟩) hab).trans (hcell k hlt)
      have hxl : zs.getD k 0 < 4294967296 := HF.out.2.2.2.1 _ (by simp [List.getD, show k < zs.length by rw [HF.out.2.2.1]; exact hlt])
      have hmem : zs.getD k 0 ∈ zs := by
        unfold List.getD
        rw [List.getElem?_eq_getElem (show k < zs.length by rw [HF.out.2.2.1]; exact hlt)]
        exact List.getElem_mem _
      obtain ⟨y, hz⟩ : ∃ y, zs.getD k 0 = y := ⟨_, rfl⟩
      rw [hz] at hx hxl hmem
      have HMEM := Lib.hid hmem
      clear hmem
      have HZ := Lib.hid hz
      have HXL := Lib.hid hxl
      clear hcell hz hxl
      go_wp2_with fail
      refine (HC.out y _ HXL.out HMEM.out HL.out).mono ?_
      rintro e w2 ⟨r, rfl, hr, hrl, hb⟩
      have HR := Lib.hid hr
      have HRL := Lib.hid hrl
      have HB2 := Lib.hid hb
      clear hr hrl hb
      obtain ⟨hfz, v0, hv0⟩ := fun_cell hlt HO'.out HB2.out
      go_wp2_with fail
      go_roundw
      case rel => exact fun_step (Nat.le_refl _) HY.out hlt HO'.out HT.out HE.out HL.out HB2.out HRL.out (by rw [HR.out, ← HZ.out])
      case measure => simp [intOf]; omega
    · obtain rfl : k = n := by omega
      go_wp2_with fail
      go_ret
      exact fun_end HY.out HO'.out HT.out HE.out HL.out
theorem c_eachOfBig (F : FuncId) (caps : Array Value) (f : Nat → Nat) (a : Option Addr) (n cap : Nat) (zs : List Nat) (w : World) (h : IsFloats .f32 w a n cap zs) (hn : n ≤ 1048576) (hE : ∀ (xs : Array Value) (wr : World), (callFunc F xs).run Try.prog wr = .ok (.enter F xs) wr)
    (hF : ∀ (x : Nat) (wr : World), x < 4294967296 → Below w.heap.size w wr → Calls Try.prog F (#[.float .f32 x] ++ caps) wr (RetX (f x) wr)) :
    Calls Try.prog 76 #[.slice a n cap, .func (.func F) #[] caps] w (RetLs ((List.range n).map fun i => f (zs.getD i 0)) w) := c_eachOfIn F caps f a n cap zs w h hn hE (fun x wr hx _ hb => hF x wr hx hb)
theorem c_eachOf (F : FuncId) (caps : Array Value) (f : Nat → Nat) (a : Option Addr) (n cap : Nat) (zs : List Nat) (w : World) (h : IsFloats .f32 w a n cap zs) (hn : n ≤ 256) (hE : ∀ (xs : Array Value) (wr : World), (callFunc F xs).run Try.prog wr = .ok (.enter F xs) wr)
    (hF : ∀ (x : Nat) (wr : World), x < 4294967296 → Below w.heap.size w wr → Calls Try.prog F (#[.float .f32 x] ++ caps) wr (RetX (f x) wr)) :
    Calls Try.prog 76 #[.slice a n cap, .func (.func F) #[] caps] w (RetLs ((List.range n).map fun i => f (zs.getD i 0)) w) := c_eachOfBig F caps f a n cap zs w h (by omega) hE hF
set_option maxRecDepth 20000 in
set_option maxHeartbeats 1000000 in
theorem c_combineLists (F : FuncId) (caps : Array Value) (f : Nat → Nat → Nat) (a a2 : Option Addr) (n cap m cap2 : Nat) (zs xs : List Nat) (w : World) (h : IsFloats .f32 w a n cap zs) (h' : IsFloats .f32 w a2 m cap2 xs) (hn : n ≤ 256) (hm : 1 ≤ m) (hm' : m ≤ 256) (hE : ∀ (xs : Array Value) (wr : World), (callFunc F xs).run Try.prog wr = .ok (.enter F xs) wr)
    (hF : ∀ (x y : Nat) (wr : World), Below w.heap.size w wr → Calls Try.prog F (#[.float .f32 x, .float .f32 y] ++ caps) wr (RetX (f x y) wr)) :
    Calls Try.prog 109 #[.slice a n cap, .slice a2 m cap2, .func (.func F) #[] caps] w (RetLs ((List.range n).map fun i => f (zs.getD i 0) (xs.getD (i % m) 0)) w) := by
  have HF := Lib.hid h
  have HF' := Lib.hid h'
  have HC := Lib.hid hF
  obtain ⟨i0, hi, hz0, hz1, hz2⟩ := info_parts info_f32
  have HI := Lib.hid hi
  have HZ0 := Lib.hid hz0
  have HZ1 := Lib.hid hz1
  have HZ2 := Lib.hid hz2
  clear h h' hF hi hz0 hz1 hz2
  go_enter Try.func109, Try.ntmps109
  go_wp2_with (at_make; refine wpList_make_full _ rfl _ _ 22 rfl w.heap.size 46 i0 (.float .f32 0) 1 Try.underlying22 HI.out HZ0.out HZ1.out _ _ _ _ n rfl rfl rfl rfl ?c1 ?c2 ?c3 ?_)
  case c1 => rw [HZ2.out]; omega
  case c2 => unfold maxLen; omega
  case c3 => exact Nat.le_refl _
  intro w1 hown hgrow
  have hb1 : Below w.heap.size w w1 := (Below.refl _ _).grown hgrow (Nat.le_refl _) (fun k h => by cases h)
  rw [toList_madeCells_one] at hown
  have HO := Lib.hid hown
  have HB := Lib.hid hb1
  clear hown hb1 hgrow
  go_wp2_with fail
  go_loopw [15] (fun i wr => FunRel (fun i => f (zs.getD i 0) (xs.getD (i % m) 0)) n w.heap.size w i wr) (fun i _ => n - (intOf i).toNat)
  case atStart => exact ⟨0, [], Nat.zero_le _, rfl, rfl, by simpa [partF] using HO.out, (fun _ h => by cases h), rfl, HB.out⟩
  case round =>
    obtain ⟨k, ys, hk, rfl, hy, ho, ht, he, hbl⟩ := hrel
    have HY := Lib.hid hy
    have HO' := Lib.hid ho
    have HT := Lib.hid ht
    have HE := Lib.hid he
    have HL := Lib.hid hbl
    have hk0 : (0 : Int) ≤ (k : Int) := by omega
    clear hy ho ht he hbl
    by_cases hlt : k < n
    · have hlt' : (k : Int) < (n : Int) := by omega
      rcases HF.out.2.2.2.2 with h' | ⟨ab, off, rfl, hab, hcell⟩
      · omega
      rcases HF'.out.2.2.2.2 with h' | ⟨ab2, off2, rfl, hab2, hcell2⟩
      · omega
      obtain ⟨q, hq⟩ : ∃ q, k % m = q := ⟨_, rfl⟩
      have HQ := Lib.hid hq
      have hqC : q < m := by rw [← hq]; exact Nat.mod_lt _ (by omega)
      clear hq
      have hx : wr.cell? ⟨ab, off + k, none⟩ = some (.float .f32 (zs.getD k 0)) := (HL.out.cell (p := ⟨ab, off + k, none⟩) hab).trans (hcell k hlt)
      have hx2 : wr.cell? ⟨ab2, off2 + q, none⟩ = some (.float .f32 (xs.getD q 0)) := (HL.out.cell (p := ⟨ab2, off2 + q, none⟩) hab2).trans (hcell2 q hqC)
      obtain ⟨z, hz⟩ : ∃ z, zs.getD k 0 = z := ⟨_, rfl⟩
      rw [hz] at hx
      have HZ := Lib.hid hz
      obtain ⟨y, hy⟩ : ∃ z, xs.getD q 0 = z := ⟨_, rfl⟩
      rw [hy] at hx2
      have HY2 := Lib.hid hy
      have j6 : ((k : Int).tmod (m : Int)) = (q : Int) := by rw [Int.tmod_eq_emod_of_nonneg (by omega), ← HQ.out]; exact (Int.natCast_emod k m).symm
      have j6' : ((k : Int) % (m : Int)) = (q : Int) := by rw [← HQ.out]; exact (Int.natCast_emod k m).symm
      have j7 : ¬ m = 0 := by omega
      have j8 : (q : Int) < (m : Int) := by omega
      have j9 : (0 : Int) ≤ (q : Int) := by omega
      clear hcell hcell2 hz hy
      go_wp2_with fail
      refine (HC.out z y _ HL.out).mono ?_
      rintro e w2 ⟨r, rfl, hr, hrl, hb⟩
      have HR := Lib.hid hr
      have HRL := Lib.hid hrl
      have HB2 := Lib.hid hb
      clear hr hrl hb
      obtain ⟨hfz, v0, hv0⟩ := fun_cell hlt HO'.out HB2.out
      go_wp2_with fail
      go_roundw
      case rel => exact fun_step (Nat.le_refl _) HY.out hlt HO'.out HT.out HE.out HL.out HB2.out HRL.out (by rw [HR.out, ← HZ.out, ← HY2.out, ← HQ.out])
      case measure => simp [intOf]; omega
    · obtain rfl : k = n := by omega
      go_wp2_with fail
      go_ret
      exact fun_end HY.out HO'.out HT.out HE.out HL.out
set_option maxRecDepth 20000 in
set_option maxHeartbeats 1000000 in
theorem c_takeLines (L F : FuncId) (caps : Array Value) (lineOf : Nat → List Nat) (f : Nat → Nat) (R C : Int) (a : Option Addr) (m cap n : Nat) (w : World) (hn : n ≤ 256) (hEL : ∀ (xs : Array Value) (wr : World), (callFunc L xs).run Try.prog wr = .ok (.enter L xs) wr) (hE : ∀ (xs : Array Value) (wr : World), (callFunc F xs).run Try.prog wr = .ok (.enter F xs) wr)
    (hL : ∀ (i : Nat) (wr : World), i < n → Below w.heap.size w wr → Calls Try.prog L #[.agg #[.int .i64 R, .int .i64 C, .slice a m cap], .int .i64 i] wr (RetRow (lineOf i) wr))
    (hF : ∀ (i : Nat) (b : Option Addr) (c : Nat) (wr : World), i < n → Below w.heap.size w wr → IsFloats .f32 wr b (lineOf i).length c (lineOf i) → Calls Try.prog F (#[.slice b (lineOf i).length c] ++ caps) wr (RetX (f i) wr)) :
    Calls Try.prog 68 #[.agg #[.int .i64 R, .int .i64 C, .slice a m cap], .int .i64 n, .func (.func L) #[] #[], .func (.func F) #[] caps] w (RetLs ((List.range n).map f) w) := by
  have HG := Lib.hid hL
  have HC := Lib.hid hF
  obtain ⟨i0, hi, hz0, hz1, hz2⟩ := info_parts info_f32
  have HI := Lib.hid hi
  have HZ0 := Lib.hid hz0
  have HZ1 := Lib.hid hz1
  have HZ2 := Lib.hid hz2
  clear hL hF hi hz0 hz1 hz2
  go_enter Try.func68, Try.ntmps68
  go_wp2_with (at_make; refine wpList_make_full _ rfl _ _ 22 rfl w.heap.size 46 i0 (.float .f32 0) 1 Try.underlying22 HI.out HZ0.out HZ1.out _ _ _ _ n rfl rfl rfl rfl ?c1 ?c2 ?c3 ?_)
  case c1 => rw [HZ2.out]; omega
  case c2 => unfold maxLen; omega
  case c3 => simp
  intro w1 hown hgrow
  have hb0 : Below w.heap.size w (w.alloc (.cells #[.int .i64 R, .int .i64 C, .slice a m cap] 26)) := (Below.refl _ _).alloc (Nat.le_refl _) _
  have hb1 := hb0.grown hgrow hb0.size (fun k h => by cases h)
  have k1 := Blk.new w 26 #[.int .i64 R, .int .i64 C, .slice a m cap]
  have k1 : Blk w1 w.heap.size 26 #[.int .i64 R, .int .i64 C, .slice a m cap] := (hgrow.block _ k1.lt (by simp)).trans k1
  have K1 := Lib.hid k1
  rw [toList_madeCells_one] at hown
  have HO := Lib.hid hown
  have HB := Lib.hid hb1
  clear hown hb0 hb1 hgrow k1
  go_wp2_with fail
  go_loopw [14] (fun i wr => FunRel f n (w.heap.size + 1) w i wr ∧ Blk wr w.heap.size 26 #[.int .i64 R, .int .i64 C, .slice a m cap]) (fun i _ => n - (intOf i).toNat)
  case atStart => exact ⟨⟨0, [], Nat.zero_le _, rfl, rfl, by simpa [partF] using HO.out, (fun _ h => by cases h), rfl, HB.out⟩, K1.out⟩
  case round =>
    obtain ⟨hrel, k1⟩ := hrel
    have K1' := Lib.hid k1
    obtain ⟨p0, p1, p2, p3⟩ := tb k1
    clear k1
    obtain ⟨k, ys, hk, rfl, hy, ho, ht, he, hbl⟩ := hrel
    have HY := Lib.hid hy
    have HO' := Lib.hid ho
    have HT := Lib.hid ht
    have HE := Lib.hid he
    have HL := Lib.hid hbl
    have hk0 : (0 : Int) ≤ (k : Int) := by omega
    clear hy ho ht he hbl
    by_cases hlt : k < n
    · have hlt' : (k : Int) < (n : Int) := by omega
      go_wp2_with fail
      clear p0 p1 p2 p3
      refine (HG.out k _ hlt HL.out).mono ?_
      rintro e w2 ⟨b2, c2, rfl, hf, hb⟩
      have HQ := Lib.hid hf.isFloats
      have HBa := Lib.hid hb
      have HL2 := Lib.hid (HL.out.trans (hb.mono HL.out.size))
      clear hf hb
      go_wp2_with fail
      refine (HC.out k b2 c2 _ hlt HL2.out HQ.out).mono ?_
      rintro e w3 ⟨r, rfl, hr, hrl, hb⟩
      have HR := Lib.hid hr
      have HRL := Lib.hid hrl
      have HB2 := Lib.hid (HBa.out.trans (hb.mono HBa.out.size))
      clear hr hrl hb
      obtain ⟨hfz, v0, hv0⟩ := fun_cell hlt HO'.out HB2.out
      go_wp2_with fail
      go_roundw
      case rel =>
        have kk := K1'.out.below HB2.out
        exact ⟨fun_step (Nat.le_succ _) HY.out hlt HO'.out HT.out HE.out HL.out HB2.out HRL.out HR.out, kk.off (g' := w.heap.size + 1) ⟨rfl, rfl, rfl, by simp, fun k _ hk => Below.heap_setCell _ _ _ k (fun e => hk (by simp [e]))⟩ (by omega)⟩
      case measure => simp [intOf]; omega
    · obtain rfl : k = n := by omega
      go_wp2_with fail
      go_ret
      exact fun_end HY.out HO'.out HT.out HE.out HL.out
end Go.Proofs.Ytkfpaehalfjhhaa