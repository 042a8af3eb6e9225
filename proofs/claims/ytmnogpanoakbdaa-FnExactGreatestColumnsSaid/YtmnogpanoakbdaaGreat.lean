/-
  GreatestColumns, as the model and the program make it. Conditions: the numbers can be read.
-/
import Derived.Test.YtmnogpanoakbdaaInts
import Derived.Test.YtmnogpanoakbdaaFun
import Derived.BigQuiet
import Derived.Deep.QuietTactic
namespace Go.Proofs.Ytmnogpanoakbdaa
open Go.RowKit Go.Deep Go.WideShapes Go.ChangeShapes

/-- the index of the greatest of the first k numbers -/
def gixF (f : Nat → Nat) : Nat → Nat
  | 0 => 0
  | k + 1 => if (FloatKind.f32.format.order (f k) (f (gixF f k)) == some .gt) = true then k else gixF f k
theorem gixF_le (f : Nat → Nat) (k : Nat) : gixF f k ≤ k := by
  induction k with
  | zero => exact Nat.le_refl _
  | succ k ih => unfold gixF; split <;> omega
theorem gixF_lt (f : Nat → Nat) {k : Nat} (h : 1 ≤ k) : gixF f k < k := by
  cases k with
  | zero => omega
  | succ k => unfold gixF; have := gixF_le f k; split <;> omega
theorem gixF_yes {f : Nat → Nat} {k : Nat} (h : (FloatKind.f32.format.order (f k) (f (gixF f k)) == some .gt) = true) : gixF f (k + 1) = k := by show (if _ then _ else _) = _; rw [if_pos h]
theorem gixF_no {f : Nat → Nat} {k : Nat} (h : (FloatKind.f32.format.order (f k) (f (gixF f k)) == some .gt) = false) : gixF f (k + 1) = gixF f k := by show (if _ then _ else _) = _; rw [if_neg (by rw [h]; decide)]
theorem gixF_congr {f g : Nat → Nat} {n : Nat} (h : ∀ k, k < n → f k = g k) : gixF f n = gixF g n := by
  induction n with
  | zero => rfl
  | succ k ih =>
    have hk := ih (fun j hj => h j (by omega))
    have e1 : f k = g k := h k (by omega)
    have e2 : f (gixF f k) = g (gixF f k) := h _ (by have := gixF_le f k; omega)
    show (if _ then _ else _) = (if _ then _ else _)
    rw [e1, e2, hk]
theorem order_self_gt (x : Nat) : (FloatKind.f32.format.order x x == some .gt) = false := by
  have h := order_self_ne .f32 x
  cases ho : FloatKind.f32.format.order x x with
  | none => rfl
  | some c =>
    cases hn : isNan .f32 x with
    | true => rw [order_isNan_l _ hn] at ho; cases ho
    | false =>
      rw [hn, ho] at h
      cases c <;> first | rfl | (simp at h)
theorem gixF_one (f : Nat → Nat) : gixF f 1 = 0 := gixF_no (order_self_gt _)
def GixRel (zs : List Nat) (n : Nat) (s i : Value) : Prop := ∃ k : Nat, k ≤ n ∧ i = .int .i64 k ∧ s = .int .i64 ((gixF (fun j => zs.getD j 0) k : Nat) : Int)
set_option maxHeartbeats 400000 in
theorem c_greatestIndex (a : Option Addr) (n cap : Nat) (zs : List Nat) (w : World) (h : IsFloats .f32 w a n cap zs) (h1 : 1 ≤ n) (hn : n ≤ 256) :
    Calls Try.prog 93 #[.slice a n cap] w fun e w' => e = .returned (.int .i64 ((gixF (fun j => zs.getD j 0) n : Nat) : Int)) ∧ w = w' := by
  have HF := Lib.hid h
  clear h
  go_enter Try.func93, Try.ntmps93
  go_wp2
  go_loop [3, 8] (fun s i => GixRel zs n s i) (fun _ i => n - (intOf i).toNat)
  case atStart => exact ⟨0, Nat.zero_le _, rfl, rfl⟩
  case round =>
    obtain ⟨k, hk, rfl, rfl⟩ := hrel
    have hq := gixF_le (fun j => zs.getD j 0) k
    have HY := fun h => gixF_yes (f := fun j => zs.getD j 0) (k := k) h
    have HN := fun h => gixF_no (f := fun j => zs.getD j 0) (k := k) h
    obtain ⟨q, hqq⟩ : ∃ q, gixF (fun j => zs.getD j 0) k = q := ⟨_, rfl⟩
    rw [hqq] at hq HY HN ⊢
    have HQ := Lib.hid hqq
    have HY' := Lib.hid HY
    have HN' := Lib.hid HN
    clear hqq HY HN
    by_cases hlt : k < n
    · have hlt' : (k : Int) < (n : Int) := by omega
      have hq' : (q : Int) < (n : Int) := by omega
      have hq0 : (0 : Int) ≤ (q : Int) := by omega
      rcases HF.out.2.2.2.2 with h0 | ⟨b, off, rfl, _, hc⟩
      · omega
      have c1 := hc k hlt
      have c2 := hc q (by omega)
      clear hc
      cases hgt : (FloatKind.f32.format.order (zs.getD k 0) (zs.getD q 0) == some .gt) with
      | true =>
        have HG := Lib.hid (HY'.out hgt)
        obtain ⟨x, hx⟩ : ∃ x, zs.getD k 0 = x := ⟨_, rfl⟩
        obtain ⟨y, hy⟩ : ∃ x, zs.getD q 0 = x := ⟨_, rfl⟩
        rw [hx] at c1 hgt
        rw [hy] at c2 hgt
        clear hx hy HY' HN'
        go_wp2
        go_round
        case rel => exact ⟨k + 1, by omega, by go_num, by rw [HG.out]⟩
        case measure => simp [intOf]; omega
      | false =>
        have HG := Lib.hid (HN'.out hgt)
        obtain ⟨x, hx⟩ : ∃ x, zs.getD k 0 = x := ⟨_, rfl⟩
        obtain ⟨y, hy⟩ : ∃ x, zs.getD q 0 = x := ⟨_, rfl⟩
        rw [hx] at c1 hgt
        rw [hy] at c2 hgt
        clear hx hy HY' HN'
        go_wp2
        go_round
        case rel => exact ⟨k + 1, by omega, by go_num, by rw [HG.out]⟩
        case measure => simp [intOf]; omega
    · obtain rfl : k = n := by omega
      go_wp2
      go_ret
      exact ⟨ret_i (congrArg (fun x : Nat => (x : Int)) HQ.out.symm), rfl⟩
/-! lists of int64 that the call makes -/
theorem info_i64 : (Try.prog.info? 2).map (fun i => (i.zero, i.size, i.bytes)) = some (some (.int .i64 0), 1, 8) := by kernel_rfl
def partI (ys : List Int) (n : Nat) : List Value := ys.map toV ++ List.replicate (n - ys.length) (Value.int .i64 0)
theorem partI_set (ys : List Int) (n : Nat) (v : Int) (h : ys.length < n) : (partI ys n).set ys.length (.int .i64 v) = partI (ys ++ [v]) n := by
  unfold partI
  rw [List.set_append_right _ _ (by simp), List.length_map, Nat.sub_self]
  obtain ⟨m, hm⟩ : ∃ m, n - ys.length = m + 1 := ⟨n - ys.length - 1, by omega⟩
  rw [hm, List.replicate_succ, List.set_cons_zero, show n - (ys ++ [v]).length = m by simp; omega]
  simp [toV]
theorem partI_all (ys : List Int) : partI ys ys.length = ys.map toV := by simp [partI]
def RetLsI (zs : List Int) (w : World) (e : Ending) (w' : World) : Prop := ∃ a cap, e = .returned (.slice a zs.length cap) ∧ OwnI w' w.heap.size a cap zs ∧ Below w.heap.size w w'
def FunRelI (f : Nat → Int) (n gd : Nat) (w : World) (i : Value) (wr : World) : Prop :=
  ∃ k : Nat, k ≤ n ∧ i = .int .i64 k ∧ wr.ownsRow w.heap.size 2 1 (.slice (some ⟨gd, 0, none⟩) n n) n (partI ((List.range k).map f) n) ∧ Below w.heap.size w wr
theorem funI_step {f : Nat → Int} {n gd k : Nat} {w wr w2 : World} (hgd : w.heap.size ≤ gd) (hk : k < n) (ho : wr.ownsRow w.heap.size 2 1 (.slice (some ⟨gd, 0, none⟩) n n) n (partI ((List.range k).map f) n))
    (hl : Below w.heap.size w wr) (hb : Below wr.heap.size wr w2) :
    FunRelI f n gd w (.int .i64 ((k : Int) + 1)) (w2.setCell ⟨gd, k, none⟩ (.int .i64 (f k))) := by
  have ho2 := ho.kept (row := none) ⟨hb.os, hb.tape, hb.output, hb.size, fun j hj _ => hb.block j hj⟩ (.inr (by simp [Value.ownBlock]))
  obtain ⟨o1, o2⟩ := ho2.stored k (.int .i64 (f k))
  have e := partI_set ((List.range k).map f) n (f k) (by simp; exact hk)
  simp only [List.length_map, List.length_range] at e
  rw [e] at o1
  refine ⟨k + 1, by omega, by go_num, ?_, (hl.trans (hb.mono hl.size)).setCell hgd _⟩
  rw [List.range_succ, List.map_append]
  exact o1
theorem funI_cell {gd n k : Nat} {w wr w2 : World} {ys : List Int} (hk : k < n) (ho : wr.ownsRow w.heap.size 2 1 (.slice (some ⟨gd, 0, none⟩) n n) n (partI ys n)) (hb : Below wr.heap.size wr w2) : w2.frozen? ⟨gd, k, none⟩ = false ∧ ∃ v, w2.cell? ⟨gd, k, none⟩ = some v := by
  have ho2 := ho.kept (row := none) ⟨hb.os, hb.tape, hb.output, hb.size, fun j hj _ => hb.block j hj⟩ (.inr (by simp [Value.ownBlock]))
  refine ⟨ho2.frozenAt k, ?_⟩
  rw [ho2.cellAt k (by omega)]
  exact ⟨_, List.getElem?_eq_getElem (by rw [ho2.1]; omega)⟩
theorem wf_small {n : Nat} (h : n ≤ 1048576) : (Lit.int .i64 (n : Int)).wf = true := by
  simp [Lit.wf, IntKind.min, IntKind.max, IntKind.signed, IntKind.bits]
  omega
set_option maxRecDepth 20000 in
set_option maxHeartbeats 1000000 in
theorem c_takeLinesI (L F : FuncId) (lineOf : Nat → List Nat) (f : Nat → Nat) (R C : Int) (a : Option Addr) (m cap n : Nat) (w : World) (hn : n ≤ 256) (hf : ∀ i, i < n → f i ≤ 1048576)
    (hEL : ∀ (xs : Array Value) (wr : World), (callFunc L xs).run Try.prog wr = .ok (.enter L xs) wr) (hE : ∀ (xs : Array Value) (wr : World), (callFunc F xs).run Try.prog wr = .ok (.enter F xs) wr)
    (hL : ∀ (i : Nat) (wr : World), i < n → Below w.heap.size w wr → Calls Try.prog L #[.agg #[.int .i64 R, .int .i64 C, .slice a m cap], .int .i64 i] wr (RetRow (lineOf i) wr))
    (hF : ∀ (i : Nat) (b : Option Addr) (c : Nat) (wr : World), i < n → Below w.heap.size w wr → IsFloats .f32 wr b (lineOf i).length c (lineOf i) → Calls Try.prog F #[.slice b (lineOf i).length c] wr (fun e w' => e = .returned (.int .i64 ((f i : Nat) : Int)) ∧ wr = w')) :
    Calls Try.prog 91 #[.agg #[.int .i64 R, .int .i64 C, .slice a m cap], .int .i64 n, .func (.func L) #[] #[], .func (.func F) #[] #[]] w (RetLsI ((List.range n).map fun i => ((f i : Nat) : Int)) w) := by
  have HG := Lib.hid hL
  have HC := Lib.hid hF
  have HWF := Lib.hid hf
  obtain ⟨i0, hi, hz0, hz1, hz2⟩ := info_parts info_i64
  have HI := Lib.hid hi
  have HZ0 := Lib.hid hz0
  have HZ1 := Lib.hid hz1
  have HZ2 := Lib.hid hz2
  clear hL hF hf hi hz0 hz1 hz2
  go_enter Try.func91, Try.ntmps91
  go_wp2_with (at_make; refine wpList_make_full _ rfl _ _ 53 rfl w.heap.size 2 i0 (.int .i64 0) 1 Try.underlying53 HI.out HZ0.out HZ1.out _ _ _ _ n rfl rfl rfl rfl ?c1 ?c2 ?c3 ?_)
  case c1 => rw [HZ2.out]; omega
  case c2 => unfold maxLen; omega
  case c3 => simp
  intro w1 hown hgrow
  have hb0 : Below w.heap.size w (w.alloc (.cells #[.int .i64 R, .int .i64 C, .slice a m cap] 26)) := (Below.refl _ _).alloc (Nat.le_refl _) _
  have hb1 := hb0.grown hgrow hb0.size (fun k h => by cases h)
  have k1 := Blk.new w 26 #[.int .i64 R, .int .i64 C, .slice a m cap]
  have k1 : Blk w1 w.heap.size 26 #[.int .i64 R, .int .i64 C, .slice a m cap] := (hgrow.block _ k1.lt (by simp)).trans k1
  have K1 := Lib.hid k1
  rw [toList_madeCells_one] at hown
  have HO := Lib.hid hown
  have HB := Lib.hid hb1
  clear hown hb0 hb1 hgrow k1
  go_wp2_with fail
  go_loopw [14] (fun i wr => FunRelI (fun i => ((f i : Nat) : Int)) n (w.heap.size + 1) w i wr ∧ Blk wr w.heap.size 26 #[.int .i64 R, .int .i64 C, .slice a m cap]) (fun i _ => n - (intOf i).toNat)
  case atStart => exact ⟨⟨0, Nat.zero_le _, rfl, by simpa [partI] using HO.out, HB.out⟩, K1.out⟩
  case round =>
    obtain ⟨⟨k, hk, rfl, ho, hbl⟩, k1⟩ := hrel
    have K1' := Lib.hid k1
    obtain ⟨p0, p1, p2, p3⟩ := tb k1
    have HO' := Lib.hid ho
    have HL := Lib.hid hbl
    have hk0 : (0 : Int) ≤ (k : Int) := by omega
    clear ho hbl k1
    by_cases hlt : k < n
    · have hlt' : (k : Int) < (n : Int) := by omega
      go_wp2_with fail
      clear p0 p1 p2 p3
      refine (HG.out k _ hlt HL.out).mono ?_
      rintro e w2 ⟨b2, c2, rfl, hf, hb⟩
      have HQ := Lib.hid hf.isFloats
      have HBa := Lib.hid hb
      have HL2 := Lib.hid (HL.out.trans (hb.mono HL.out.size))
      clear hf hb
      go_wp2_with fail
      refine (HC.out k b2 c2 _ hlt HL2.out HQ.out).mono ?_
      rintro e w3 ⟨rfl, rfl⟩
      obtain ⟨hfz, v0, hv0⟩ := funI_cell hlt HO'.out HBa.out
      obtain ⟨fk, hfk⟩ : ∃ x, ((f k : Nat) : Int) = x := ⟨_, rfl⟩
      have HFK := Lib.hid hfk
      rw [hfk]
      clear hfk
      go_wp2_with fail
      go_roundw
      case rel =>
        have kk := K1'.out.below HBa.out
        rw [← HFK.out]
        exact ⟨funI_step (Nat.le_succ _) hlt HO'.out HL.out HBa.out, kk.off (g' := w.heap.size + 1) ⟨rfl, rfl, rfl, by simp, fun k _ hk => Below.heap_setCell _ _ _ k (fun e => hk (by simp [e]))⟩ (by omega)⟩
      case measure => simp [intOf]; omega
    · obtain rfl : k = n := by omega
      go_wp2_with fail
      go_ret
      have ho := HO'.out
      have e : partI ((List.range k).map fun i => ((f i : Nat) : Int)) k = ((List.range k).map fun i => ((f i : Nat) : Int)).map toV := by
        have := partI_all ((List.range k).map fun i => ((f i : Nat) : Int))
        simpa using this
      rw [e] at ho
      have hl : ((List.range k).map fun i => ((f i : Nat) : Int)).length = k := by simp
      refine ⟨some ⟨w.heap.size + 1, 0, none⟩, k, by rw [hl]; rfl, ⟨by rw [hl]; exact ho, fun y hy => ?_⟩, HL.out⟩
      obtain ⟨i, hi, rfl⟩ := List.mem_map.1 hy
      exact wf_small (HWF.out i (List.mem_range.1 hi))
def bestOf (z : List Nat) (C i : Nat) : Nat := gixF (fun k => z.getD (i * C + k) 0) C
theorem bestOf_lt {z : List Nat} {C i : Nat} (h : 1 ≤ C) : bestOf z C i < C := gixF_lt _ h
theorem bestOf_row {z zr : List Nat} {C i : Nat} (h : (z.drop (i * C)).take C = zr) : gixF (fun k => zr.getD k 0) C = bestOf z C i := by
  refine gixF_congr fun k hk => ?_
  subst h
  simp [List.getD, hk]
def vGreatestColumns (r c : Int) (z : List Nat) : Bool × List Int := if vokB r c z.length = true then (true, (List.range r.toNat).map fun i => ((bestOf z c.toNat i : Nat) : Int)) else (false, [])
theorem vGreatestColumns_len (r c : Int) (z : List Nat) : (vGreatestColumns r c z).2.length ≤ 1048576 := by
  unfold vGreatestColumns
  split
  · rename_i h
    obtain ⟨R, C, rfl, rfl, h1, h2, h3, h4, h5⟩ := vok_nat h
    simp; omega
  · simp
theorem vGreatestColumns_yes {R C : Nat} {z : List Nat} (h : vokB R C z.length = true) : vGreatestColumns R C z = (true, (List.range R).map fun i => ((bestOf z C i : Nat) : Int)) := by unfold vGreatestColumns; rw [if_pos h]; simp
set_option maxHeartbeats 1000000 in
theorem t_iGreatestColumns (r c : Int) (z : List Nat) (a0 : Option Addr) (w : World) (h0 : IsFloats .f32 w a0 z.length z.length z) :
    Calls Try.prog 48 #[.agg #[.int .i64 r, .int .i64 c, .slice a0 z.length z.length]] w (RetI (vGreatestColumns r c z).1 (vGreatestColumns r c z).2 w) := by
  have hn : z.length ≤ 9223372036854775807 := by have := h0.2.1; unfold maxLen at this; exact this
  have HI := Lib.hid h0
  clear h0
  cases hv : vokB r c z.length with
  | false =>
    have HV := Lib.hid hv
    have HX := Lib.hid (show vGreatestColumns r c z = (false, []) by unfold vGreatestColumns; rw [if_neg (by rw [hv]; decide)])
    clear hv
    rw [HX.out]
    go_enter Try.func48, Try.ntmps48
    go_wp2_with fail
    have B_0 := Lib.hid (Below.refl w.heap.size w)
    have bl := (Below.refl (w).heap.size (w)).alloc (Nat.le_refl _) (.cells #[.int .i64 r, .int .i64 c, .slice a0 z.length z.length] 26)
    have hn := Blk.new (w) 26 #[.int .i64 r, .int .i64 c, .slice a0 z.length z.length]
    have B_1 := Lib.hid (Below.next B_0.out bl)
    clear bl B_0
    have K_1 := Lib.hid hn
    clear hn
    generalize (w).alloc (.cells #[.int .i64 r, .int .i64 c, .slice a0 z.length z.length] 26) = w1 at B_1 K_1 ⊢
    refine (c_iValid r c _ _ _ false HV.out _).mono ?_
    rintro e w2 ⟨rfl, bl⟩
    have B_2 := Lib.hid (Below.next B_1.out bl)
    have K_2 := Lib.hid (K_1.out.below bl)
    clear bl B_1 K_1
    obtain ⟨pK0, pK1, pK2, pK3⟩ := tb K_2.out
    go_wp2_with fail
    go_ret2
    exact ⟨none, 0, [], rfl, nil_ownI _ _, rfl, B_2.out⟩
  | true =>
    obtain ⟨R, C, rfl, rfl, h1, h2, h3, h4, h5⟩ := vok_nat hv
    have H5 := Lib.hid h5
    clear h5
    have HV := Lib.hid hv
    have HX := Lib.hid (vGreatestColumns_yes hv)
    clear hv
    rw [HX.out]
    go_enter Try.func48, Try.ntmps48
    go_wp2_with fail
    have B_0 := Lib.hid (Below.refl w.heap.size w)
    have bl := (Below.refl (w).heap.size (w)).alloc (Nat.le_refl _) (.cells #[.int .i64 (R : Int), .int .i64 (C : Int), .slice a0 z.length z.length] 26)
    have hn := Blk.new (w) 26 #[.int .i64 (R : Int), .int .i64 (C : Int), .slice a0 z.length z.length]
    have B_1 := Lib.hid (Below.next B_0.out bl)
    clear bl B_0
    have K_1 := Lib.hid hn
    clear hn
    generalize (w).alloc (.cells #[.int .i64 (R : Int), .int .i64 (C : Int), .slice a0 z.length z.length] 26) = w1 at B_1 K_1 ⊢
    refine (c_iValid (R : Int) (C : Int) _ _ _ true HV.out _).mono ?_
    rintro e w2 ⟨rfl, bl⟩
    have B_2 := Lib.hid (Below.next B_1.out bl)
    have K_2 := Lib.hid (K_1.out.below bl)
    clear bl B_1 K_1
    obtain ⟨pK0, pK1, pK2, pK3⟩ := tb K_2.out
    go_wp2_with fail
    clear pK0 pK1 pK2 pK3
    refine (c_takeLinesI 92 93 (fun i => (z.drop (i * C)).take C) (fun i => bestOf z C i) R C a0 z.length z.length R _ (by omega) (fun i _ => by have := bestOf_lt (z := z) (i := i) h3; omega)
      (enters_of Try.func92 (by kernel_rfl) (by kernel_rfl)) (enters_of Try.func93 (by kernel_rfl) (by kernel_rfl))
      (fun i wr hi hb => c_iRow R C i a0 z.length z.length z wr ((HI.out.kept B_2.out).kept hb) h2 h3 h4 hi H5.out _ rfl)
      (fun i b c wr hi hb hf => by
        have hl : ((z.drop (i * C)).take C).length = C := by
          have e1 : (i + 1) * C ≤ R * C := Nat.mul_le_mul_right C hi
          have e2 : (i + 1) * C = i * C + C := by rw [Nat.add_mul, Nat.one_mul]
          have e3 := H5.out
          simp; omega
        have := c_greatestIndex b _ c _ wr hf (by rw [hl]; exact h3) (by rw [hl]; omega)
        rw [hl] at this ⊢
        rw [bestOf_row rfl] at this
        exact this)).mono ?_
    rintro e w3 ⟨b, cc, rfl, hf, bl⟩
    have HW := Lib.hid (hf.base (B' := w.heap.size) B_2.out.size)
    clear hf
    have B_3 := Lib.hid (Below.next B_2.out bl)
    have K_3 := Lib.hid (K_2.out.below bl)
    clear bl B_2 K_2
    obtain ⟨pK0, pK1, pK2, pK3⟩ := tb K_3.out
    go_wp2_with fail
    go_ret2
    exact ⟨b, cc, _, (by rw [show ((List.range R).map fun i => ((bestOf z C i : Nat) : Int)).length = R by simp]; rfl), HW.out, rfl, B_3.out⟩
theorem one_reads {w : World} {T : TypeId} (u : Value) : Reads (w.alloc (.cells #[u] T)) (w.heap.size + 1) 1 (some ⟨w.heap.size, 0, none⟩) 1 [u] := by
  refine ⟨rfl, fun _ => ⟨_, rfl, by simp, fun j v hv => ?_⟩⟩
  rw [add_plain]
  have := (Blk.new w T #[u]).cell (0 + j)
  rw [this, Nat.zero_add]
  simpa using hv
theorem int_next {w wr w' : World} {b a' : Option Addr} {cp c' g : Nat} {T : TypeId} {cs : Array Value} {ys : List Int} {v : Int} (ho : OwnI wr w.heap.size b cp ys) (hv : (Lit.int .i64 v).wf = true)
    (hown : w'.ownsRow w.heap.size 2 1 (.slice a' (ys.length + 1) c') (ys.length + 1) (ys.map toV ++ [.int .i64 v])) (hgr : (wr.alloc (.cells #[.int .i64 v] T)).grownBy w' (Value.ownBlock (.slice b ys.length cp)))
    (hl : Below w.heap.size w wr) (k1 : Blk wr g 26 cs) : OwnI w' w.heap.size a' c' (ys ++ [v]) ∧ Below w.heap.size w w' ∧ Blk w' g 26 cs := by
  rw [ownBlock_slice] at hgr
  have bl := (Below.refl wr.heap.size wr).alloc (Nat.le_refl _) (.cells #[.int .i64 v] T)
  have ho1 := ho.kept bl
  refine ⟨⟨by simpa [toV] using hown, fun y hy => ?_⟩, (hl.trans (bl.mono hl.size)).grown hgr (Nat.le_trans hl.size bl.size) (fun g h => (ho1.lt g h).1), (k1.below bl).apartI hgr ho1 (by decide)⟩
  rcases List.mem_append.1 hy with h | h
  · exact ho.2 y h
  · simp at h; subst h; exact hv
def BestRel (z : List Nat) (R C : Nat) (a0 : Option Addr) (w : World) (s i : Value) (wr : World) : Prop :=
  ∃ (k : Nat) (b : Option Addr) (cp : Nat) (ys : List Int), k ≤ R ∧ i = .int .i64 k ∧ s = .slice b ys.length cp ∧ ys = ((List.range k).map fun i => ((bestOf z C i : Nat) : Int)) ∧ OwnI wr w.heap.size b cp ys ∧ Below w.heap.size w wr ∧
    Blk wr w.heap.size 26 #[.int .i64 R, .int .i64 C, .slice a0 z.length z.length]
def InBestRel (z : List Nat) (C i : Nat) (wo : World) (s k : Value) (wr : World) : Prop :=
  ∃ (kk m : Nat), 1 ≤ kk ∧ kk ≤ C ∧ k = .int .i64 kk ∧ s = .int .i64 ((gixF (fun k => z.getD (i * C + k) 0) kk : Nat) : Int) ∧ wr = wo.drewN m
set_option maxRecDepth 20000 in
set_option maxHeartbeats 2000000 in
theorem t_sGreatestColumns (r c : Int) (z : List Nat) (a0 : Option Addr) (w : World) (h0 : IsFloats .f32 w a0 z.length z.length z) :
    Calls Try.prog 47 #[.agg #[.int .i64 r, .int .i64 c, .slice a0 z.length z.length]] w (RetI (vGreatestColumns r c z).1 (vGreatestColumns r c z).2 w) := by
  have hn : z.length ≤ 9223372036854775807 := by have := h0.2.1; unfold maxLen at this; exact this
  have HI := Lib.hid h0
  clear h0
  cases hv : vokB r c z.length with
  | false =>
    have HV := Lib.hid hv
    have HX := Lib.hid (show vGreatestColumns r c z = (false, []) by unfold vGreatestColumns; rw [if_neg (by rw [hv]; decide)])
    clear hv
    rw [HX.out]
    go_enter Try.func47, Try.ntmps47
    go_wp2_with fail
    have B_0 := Lib.hid (Below.refl w.heap.size w)
    have bl := (Below.refl (w).heap.size (w)).alloc (Nat.le_refl _) (.cells #[.int .i64 r, .int .i64 c, .slice a0 z.length z.length] 26)
    have hn := Blk.new (w) 26 #[.int .i64 r, .int .i64 c, .slice a0 z.length z.length]
    have B_1 := Lib.hid (Below.next B_0.out bl)
    clear bl B_0
    have K_1 := Lib.hid hn
    clear hn
    generalize (w).alloc (.cells #[.int .i64 r, .int .i64 c, .slice a0 z.length z.length] 26) = w1 at B_1 K_1 ⊢
    obtain ⟨pK0, pK1, pK2, pK3⟩ := tb K_1.out
    refine (c_l02Is w.heap.size 0 r c a0 z.length z.length false HV.out hn _ pK0 pK1 pK2).mono ?_
    rintro e w2 ⟨rfl, dn⟩
    have bl := dn.below
    clear dn
    have B_2 := Lib.hid (Below.next B_1.out bl)
    have K_2 := Lib.hid (K_1.out.below bl)
    clear bl B_1 K_1
    clear pK0 pK1 pK2 pK3
    obtain ⟨pK0, pK1, pK2, pK3⟩ := tb K_2.out
    go_wp2_with fail
    go_ret2
    exact ⟨none, 0, [], rfl, nil_ownI _ _, rfl, B_2.out⟩
  | true =>
    obtain ⟨R, C, rfl, rfl, h1, h2, h3, h4, h5⟩ := vok_nat hv
    have H5 := Lib.hid h5
    clear h5
    have HV := Lib.hid hv
    have HX := Lib.hid (vGreatestColumns_yes hv)
    clear hv
    rw [HX.out]
    obtain ⟨i0, hi, hz0, hz1, hz2⟩ := info_parts info_i64
    have JI := Lib.hid hi
    have HZ0 := Lib.hid hz0
    have HZ1 := Lib.hid hz1
    have HZ2 := Lib.hid hz2
    clear hi hz0 hz1 hz2
    go_enter Try.func47, Try.ntmps47
    go_wp2_with fail
    have B_0 := Lib.hid (Below.refl w.heap.size w)
    have bl := (Below.refl (w).heap.size (w)).alloc (Nat.le_refl _) (.cells #[.int .i64 (R : Int), .int .i64 (C : Int), .slice a0 z.length z.length] 26)
    have hn := Blk.new (w) 26 #[.int .i64 (R : Int), .int .i64 (C : Int), .slice a0 z.length z.length]
    have B_1 := Lib.hid (Below.next B_0.out bl)
    clear bl B_0
    have K_1 := Lib.hid hn
    clear hn
    generalize (w).alloc (.cells #[.int .i64 (R : Int), .int .i64 (C : Int), .slice a0 z.length z.length] 26) = w1 at B_1 K_1 ⊢
    obtain ⟨pK0, pK1, pK2, pK3⟩ := tb K_1.out
    refine (c_l02Is w.heap.size 0 (R : Int) (C : Int) a0 z.length z.length true HV.out hn _ pK0 pK1 pK2).mono ?_
    rintro e w2 ⟨rfl, dn⟩
    have bl := dn.below
    clear dn
    have B_2 := Lib.hid (Below.next B_1.out bl)
    have K_2 := Lib.hid (K_1.out.below bl)
    clear bl B_1 K_1
    clear pK0 pK1 pK2 pK3
    go_wp2_with fail
    have BE := Lib.hid (Below.next B_2.out ((Below.refl w2.heap.size w2).alloc (Nat.le_refl _) (.cells #[] 2)))
    have KE := Lib.hid (K_2.out.below ((Below.refl w2.heap.size w2).alloc (Nat.le_refl _) (.cells #[] 2)))
    have OE := Lib.hid (show OwnI (w2.alloc (.cells #[] 2)) w.heap.size (some ⟨w2.heap.size, 0, none⟩) 0 [] from ⟨World.ownsRow_made w2 #[] 0 B_2.out.size (by decide) rfl, fun _ h => by cases h⟩)
    go_loopw [4, 5] (fun s i wr => BestRel z R C a0 w s i wr) (fun _ i _ => R - (intOf i).toNat)
    case atStart => exact ⟨0, _, 0, [], Nat.zero_le _, rfl, rfl, rfl, OE.out, BE.out, KE.out⟩
    case round =>
      obtain ⟨i, b, cp, ys, hi, rfl, rfl, hys, ho, hbl, kk⟩ := hrel
      have HYS := Lib.hid hys
      have HO := Lib.hid ho
      have HL := Lib.hid hbl
      have K_3 := Lib.hid kk
      have hi0 : (0 : Int) ≤ (i : Int) := by omega
      have HLEN := Lib.hid (show ys.length = i by rw [hys]; simp)
      obtain ⟨pK0, pK1, pK2, pK3⟩ := tb kk
      clear hys ho hbl kk BE KE OE
      by_cases hlt : i < R
      · have hlt' : (i : Int) < (R : Int) := by omega
        obtain ⟨wo, hwo⟩ : ∃ wo : World, wo = wr := ⟨_, rfl⟩
        subst hwo
        go_wp2_with fail
        clear pK0 pK1 pK2 pK3
        go_loopw [6, 7] (fun s k wq => InBestRel z C i wo s k wq) (fun _ k _ => C - (intOf k).toNat)
        case atStart => exact ⟨1, 0, Nat.le_refl _, h3, rfl, by rw [gixF_one]; rfl, rfl⟩
        case round =>
          obtain ⟨k, m, hk1, hk, rfl, rfl, rfl⟩ := hrel
          have hq := gixF_lt (fun k => z.getD (i * C + k) 0) hk1
          have HY := fun h => gixF_yes (f := fun k => z.getD (i * C + k) 0) (k := k) h
          have HN := fun h => gixF_no (f := fun k => z.getD (i * C + k) 0) (k := k) h
          obtain ⟨q, hqq⟩ : ∃ q, gixF (fun k => z.getD (i * C + k) 0) k = q := ⟨_, rfl⟩
          rw [hqq] at hq HY HN ⊢
          have HQ := Lib.hid hqq
          have HY' := Lib.hid HY
          have HN' := Lib.hid HN
          clear hqq HY HN
          obtain ⟨pK0, pK1, pK2, pK3⟩ := tb K_3.out
          have hk0 : (0 : Int) ≤ (k : Int) := by omega
          by_cases hlk : k < C
          · have hlk' : (k : Int) < (C : Int) := by omega
            obtain ⟨f1, f2, f3, f4⟩ := row_facts (cap := 0) h2 h3 h4 hlt H5.out
            obtain ⟨P, hP⟩ : ∃ P, i * C = P := ⟨_, rfl⟩
            rw [hP] at f1 f3 HY' HN'
            rcases HI.out.2.2.2.2 with h' | ⟨ab, off, rfl, hab, hcell⟩
            · omega
            have c1 : wo.cell? ⟨ab, off + (P + k), none⟩ = some (.float .f32 (z.getD (P + k) 0)) := (HL.out.cell (p := ⟨ab, off + (P + k), none⟩) hab).trans (hcell (P + k) (by omega))
            have c2 : wo.cell? ⟨ab, off + (P + q), none⟩ = some (.float .f32 (z.getD (P + q) 0)) := (HL.out.cell (p := ⟨ab, off + (P + q), none⟩) hab).trans (hcell (P + q) (by omega))
            have HP := Lib.hid hP
            have j1 : (P : Int) + (k : Int) < (z.length : Int) := by omega
            have j0 : (0 : Int) ≤ (P : Int) + (k : Int) := by omega
            have j3 : (P : Int) + (q : Int) < (z.length : Int) := by omega
            have j2 : (0 : Int) ≤ (P : Int) + (q : Int) := by omega
            have k1 : IntKind.i64.wrap ((i : Int) * (C : Int)) = (P : Int) := by rw [f3]; exact IntWalk.i64_in _ (by omega)
            have k2 : IntKind.i64.wrap ((P : Int) + (k : Int)) = (P : Int) + (k : Int) := IntWalk.i64_in _ (by omega)
            have k3 : ((P : Int) + (k : Int)).toNat = P + k := by omega
            have k4 : IntKind.i64.wrap ((P : Int) + (q : Int)) = (P : Int) + (q : Int) := IntWalk.i64_in _ (by omega)
            have k5 : ((P : Int) + (q : Int)).toNat = P + q := by omega
            clear hcell hP f1 f2 f3 f4
            cases hgt : (FloatKind.f32.format.order (z.getD (P + k) 0) (z.getD (P + q) 0) == some .gt) with
            | true =>
              have HG := Lib.hid (HY'.out hgt)
              obtain ⟨x, hx⟩ : ∃ x, z.getD (P + k) 0 = x := ⟨_, rfl⟩
              obtain ⟨y, hy⟩ : ∃ x, z.getD (P + q) 0 = x := ⟨_, rfl⟩
              rw [hx] at c1 hgt
              rw [hy] at c2 hgt
              clear hx hy HY' HN'
              go_wp2_with fail
              go_quiet (fail)
              clear k1 k2 k3 k4 k5
              go_wp2_with fail
              go_roundw
              case rel => exact ⟨k + 1, _, by omega, by omega, by go_num, by rw [HP.out, HG.out], rfl⟩
              case measure => simp [intOf]; omega
            | false =>
              have HG := Lib.hid (HN'.out hgt)
              obtain ⟨x, hx⟩ : ∃ x, z.getD (P + k) 0 = x := ⟨_, rfl⟩
              obtain ⟨y, hy⟩ : ∃ x, z.getD (P + q) 0 = x := ⟨_, rfl⟩
              rw [hx] at c1 hgt
              rw [hy] at c2 hgt
              clear hx hy HY' HN'
              go_wp2_with fail
              go_quiet (fail)
              clear k1 k2 k3 k4 k5
              go_wp2_with fail
              go_roundw
              case rel => exact ⟨k + 1, _, by omega, by omega, by go_num, by rw [HP.out, HG.out], rfl⟩
              case measure => simp [intOf]; omega
          · obtain rfl : k = C := by omega
            have HOd := Lib.hid (HO.out.kept (below_drewN (Below.refl _ _) m))
            have HLd := Lib.hid (below_drewN HL.out m)
            have K_d := Lib.hid (K_3.out.below (below_drewN (Below.refl _ _) m))
            have A1 := Lib.hid (show ys.length + 1 ≤ 17 by rw [HLEN.out]; omega)
            have HWF := Lib.hid (wf_small (n := q) (by omega))
            clear pK0 pK1 pK2 pK3
            generalize wo.drewN m = wd at HOd HLd K_d ⊢
            obtain ⟨pK0, pK1, pK2, pK3⟩ := tb K_d.out
            go_wp2_with (at_builtin; refine wpList_append_any _ rfl (.tmp 45) (.tmp 47) _ rfl w.heap.size 2 i0 _ 1 8 Try.underlying53 JI.out HZ0.out HZ1.out HZ2.out rfl (by omega) (.slice b ys.length cp) ys.length _ rfl (HOd.out.kept ((Below.refl _ _).alloc (Nat.le_refl _) _)).1 _ _ 1 1 [.int .i64 (q : Int)] rfl (one_reads _) (by intro u hu; simp at hu; subst hu; rfl) ?c1 ?c2 ?c3 ?_)
            case c1 => have := A1.out; unfold maxLen; omega
            case c2 => have := A1.out; omega
            case c3 => have := HLd.out.size; simp; omega
            intro v' w5 hown hgr hat
            obtain ⟨a', c', rfl⟩ := ownsRow_slice hown
            clear pK0 pK1 pK2 pK3
            have HT := Lib.hid (int_next HOd.out HWF.out hown hgr HLd.out K_d.out)
            clear hown hgr hat
            go_wp2_with fail
            go_roundw
            case rel =>
              obtain ⟨t1, t2, t3⟩ := HT.out
              refine ⟨i + 1, a', c', ys ++ [(q : Int)], by omega, by go_num, by simp, ?_, t1, t2, t3⟩
              rw [List.range_succ, List.map_append, ← HYS.out, List.map_cons, List.map_nil]
              unfold bestOf
              rw [HQ.out]
            case measure => simp [intOf]; omega
      · obtain rfl : i = R := by omega
        go_wp2_with fail
        go_ret2
        exact ⟨b, cp, ys, rfl, HO.out, HYS.out, HL.out⟩
end Go.Proofs.Ytmnogpanoakbdaa
