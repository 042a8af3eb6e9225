/-
  Products of lists by rows and columns as the program makes them (multiplyLists), by a function that is handed over. Conditions: the numbers can be read.
-/
import Derived.Test.YtkfpaehalfjhhaaMulA
import Derived.Test.YtkfpaehalfjhhaaTurn
import Derived.Test.YtkfpaehalfjhhaaItk
import Derived.Shelf.RegionOpen
import Derived.RangeFuncNested
namespace Go.Proofs.Ytkfpaehalfjhhaa
open Go.RowKit Go.Shelf Go.Deep Go.WideShapes Go.ChangeShapes
set_option linter.unusedVariables false
set_option linter.unusedSimpArgs false
attribute [local go_sem] Oper.semAt_some

theorem turn_chunk {z : List Nat} {R C k : Nat} : ∀ n, k < n → ((turnL z R C n).drop (k * R)).take R = colL z R C k := by
  intro n
  induction n with
  | zero => intro h; omega
  | succ n ih =>
    intro h
    have hl := turnL_length z R C n
    have hc := colL_length z R C n
    rw [turnL_succ]
    by_cases hk : k < n
    · have h1 : (k + 1) * R ≤ n * R := Nat.mul_le_mul_right R hk
      have h2 : (k + 1) * R = k * R + R := Nat.succ_mul k R
      rw [List.drop_append_of_le_length (by omega), List.take_append_of_le_length (by simp; omega)]
      exact ih hk
    · obtain rfl : k = n := by omega
      rw [← hl, List.drop_left, List.take_of_length_le (by omega)]
theorem chLen_full {n m k c : Nat} (hn : n = c * m) (hk : k < c) : chLen n m k = m := by
  have h1 : (k + 1) * m ≤ c * m := Nat.mul_le_mul_right m hk
  have h2 : (k + 1) * m = k * m + m := Nat.succ_mul k m
  unfold chLen
  omega
theorem chCnt_full {n m c : Nat} (hn : n = c * m) (hm : 1 ≤ m) : chCnt n m = c := by
  unfold chCnt
  rw [hn, Nat.add_sub_assoc hm, Nat.mul_comm, Nat.mul_add_div (by omega), Nat.div_eq_of_lt (by omega), Nat.add_zero]
theorem floats_someT {w : World} {a : Option Addr} {n cap : Nat} {zs : List Nat} (h : IsFloats .f32 w a n cap zs) (h1 : 1 ≤ n) : ∃ b off, a = some ⟨b, off, none⟩ := by
  rcases h.2.2.2.2 with h0 | ⟨b, off, e, _, _⟩
  · omega
  · exact ⟨b, off, e⟩
theorem ownFrom_exT {β γ : Type} {B : Nat} {I : β × γ → World → Prop} (h : OwnFrom B I) : OwnFrom B (fun s W => ∃ r, I (s, r) W) := fun s W W' row ⟨r, hs⟩ hg hr => ⟨r, h (s, r) W W' row hs hg hr⟩
theorem boxed_ownT {β : Type} {B0 B : Nat} {t : TypeId} {v : Value} : OwnFrom B0 (fun (_ : β) W => Boxed W B t v) := fun s W W' row hs hg hr => hs.kept hg (fun e => by
  obtain ⟨_, o, ho, hc⟩ := hr B e.symm
  rw [show W.heap[B]? = _ from hs] at ho
  cases ho
  cases hc)
theorem parts_oneT {w : World} {b off n cap m k : Nat} {z : List Nat} (h : IsFloats .f32 w (some ⟨b, off, none⟩) n cap z) (hk : k * m ≤ n) :
    IsFloats .f32 w (some ⟨b, off + k * m, none⟩) (((z.drop (k * m)).take m).length) (chLen n m k) ((z.drop (k * m)).take m) ∧ ((z.drop (k * m)).take m).length = chLen n m k := by
  obtain ⟨h1, h2, h3, h4, h5⟩ := h
  have hl : ((z.drop (k * m)).take m).length = chLen n m k := by simp [chLen, h3]
  refine ⟨⟨by omega, ?_, rfl, fun x hx => h4 x (List.mem_of_mem_drop (List.mem_of_mem_take hx)), ?_⟩, hl⟩
  · have : chLen n m k ≤ n := by unfold chLen; omega
    omega
  · rcases h5 with h0 | ⟨b', o', e, hb, hc⟩
    · left; rw [hl]; unfold chLen; omega
    · simp only [Option.some.injEq, Addr.mk.injEq] at e
      obtain ⟨rfl, rfl, _⟩ := e
      refine .inr ⟨b, off + k * m, rfl, hb, fun i hi => ?_⟩
      have hi' : k * m + i < n := by rw [hl] at hi; unfold chLen at hi; omega
      have hi2 : i < m := by rw [hl] at hi; unfold chLen at hi; omega
      rw [Nat.add_assoc, hc _ hi']
      congr 2
      simp [List.getD, hi2, List.getElem?_drop]
/-- what a round keeps: the row in its box, the iterator's boxes -/
def MulI (S : Nat) (wp : World) (va vn : Value) (zs : List Nat) (W : World) : Prop :=
  (∃ rs : List Nat, (∃ v, Boxed W S 22 v ∧ W.ownsRow S 46 1 v rs.length (rs.map (Value.float .f32)) ∧ True) ∧ (rs.map (canon .f32) = zs ∧ ∀ r ∈ rs, r < 2 ^ 32)) ∧ Below S wp W ∧ (Boxed W (S + 1) 22 va ∧ Boxed W (S + 1 + 1) 3 vn)
theorem mulI_own {β : Type} {S B : Nat} {wp : World} {va vn : Value} {F : β → List Nat} (h1 : S ≤ wp.heap.size) (h2 : S ≤ B) : OwnFrom B (fun s W => MulI S wp va vn (F s) W) := by
  refine OwnFrom.and (ownFrom_exT (I := fun (s : β × List Nat) W => (∃ v, Boxed W S 22 v ∧ W.ownsRow S 46 1 v s.2.length (s.2.map (Value.float .f32)) ∧ True) ∧ (s.2.map (canon .f32) = F s.1 ∧ ∀ r ∈ s.2, r < 2 ^ 32)) ?_) (OwnFrom.and (ownFrom_below h1 h2) (OwnFrom.and boxed_ownT boxed_ownT))
  exact OwnFrom.and (Own.from (holdsRow_own S S 22 46 1 (fun s : β × List Nat => s.2.length) (fun s => s.2.map (Value.float .f32)) (fun _ _ => True)) _) (ownFrom_pure _ (fun s : β × List Nat => s.2.map (canon .f32) = F s.1 ∧ ∀ r ∈ s.2, r < 2 ^ 32))
def rowsF (dotv : List Nat → List Nat → Nat) (za zb : List Nat) (M K : Nat) {n : Nat} (pre : List (ChI n M)) : List Nat := pre.flatMap fun x => mulRow dotv za zb M K x.1
def innF (dotv : List Nat → List Nat → Nat) (za zb : List Nat) (M K i : Nat) {n : Nat} (pre : List (ChI n M)) : List Nat := pre.map fun y => dotv (rowL za M i) (colL zb M K y.1)
theorem rowsF_len {dotv : List Nat → List Nat → Nat} {za zb : List Nat} {M K n : Nat} (pre : List (ChI n M)) : (rowsF dotv za zb M K pre).length = pre.length * K := by
  induction pre with
  | nil => simp [rowsF]
  | cons x xs ih =>
    unfold rowsF at ih ⊢
    rw [List.flatMap_cons, List.length_append, ih, List.length_cons, Nat.succ_mul]
    simp [mulRow]; omega
theorem rowsF_snoc {dotv : List Nat → List Nat → Nat} {za zb : List Nat} {M K n : Nat} (pre : List (ChI n M)) (x : ChI n M) : rowsF dotv za zb M K (pre ++ [x]) = rowsF dotv za zb M K pre ++ mulRow dotv za zb M K x.1 := by simp [rowsF, List.flatMap_append]
theorem rowsF_all {dotv : List Nat → List Nat → Nat} {za zb : List Nat} {M K n c : Nat} {pre : List (ChI n M)} (h : pre.map Subtype.val = List.range c) : rowsF dotv za zb M K pre = (List.range (c * K)).map (mulF dotv za zb M K) := by
  rw [← mul_flat, ← h]
  simp [rowsF, List.flatMap_map]
theorem innF_all {dotv : List Nat → List Nat → Nat} {za zb : List Nat} {M K i n : Nat} {pre : List (ChI n M)} (h : pre.map Subtype.val = List.range K) : innF dotv za zb M K i pre = mulRow dotv za zb M K i := by
  unfold innF mulRow
  rw [← h, List.map_map]
  rfl
theorem innF_snoc {dotv : List Nat → List Nat → Nat} {za zb : List Nat} {M K i n : Nat} (pre : List (ChI n M)) (x : ChI n M) : innF dotv za zb M K i (pre ++ [x]) = innF dotv za zb M K i pre ++ [dotv (rowL za M i) (colL zb M K x.1)] := by simp [innF]
/-- a round's end: the row has grown by a number, and lies in its box -/
theorem mul_end {S T Bx : Nat} {wp W w5 w1 : World} {va vn rv tv v v' : Value} {zs rs : List Nat} {r c : Nat} {tmp : Obj} (B B2 : Nat)
    (hv : Boxed W S 22 v) (hrow : W.ownsRow S 46 1 v rs.length (rs.map (Value.float .f32))) (hc : rs.map (canon .f32) = zs) (hlt : ∀ r ∈ rs, r < 2 ^ 32)
    (hB : Below S wp W) (hSW : S ≤ W.heap.size) (hx1 : Boxed W (S + 1) 22 va) (hx2 : Boxed W (S + 1 + 1) 3 vn) (hX : Boxed W Bx 22 rv) (hT : Boxed W T 22 tv) (hT1 : Boxed W (T + 1) 3 vn) (hne : S < T) (hneX : S < Bx)
    (hb : Below W.heap.size W w5) (hr : canon .f32 r = c) (hr2 : r < 2 ^ 32)
    (hown : w1.ownsRow S 46 1 v' (rs.length + 1) (rs.map (Value.float .f32) ++ [.float .f32 r])) (hg : (w5.alloc tmp).grownBy w1 v.ownBlock) :
    KeepsFrom B W (w1.setCell ⟨S, 0, none⟩ v') ∧ KeepB T (T + 1) W (w1.setCell ⟨S, 0, none⟩ v') ∧ MulI S wp va vn (zs ++ [c]) (w1.setCell ⟨S, 0, none⟩ v') ∧ (Boxed (w1.setCell ⟨S, 0, none⟩ v') Bx 22 rv ∧ Boxed (w1.setCell ⟨S, 0, none⟩ v') T 22 tv ∧ Boxed (w1.setCell ⟨S, 0, none⟩ v') (T + 1) 3 vn) ∧ KeepsFrom B2 W (w1.setCell ⟨S, 0, none⟩ v') := by
  have hv5 : Boxed w5 S 22 v := (hb.block S hv.lt).trans hv
  have hrow5 : w5.ownsRow S 46 1 v rs.length (rs.map (Value.float .f32)) := hrow.kept (row := none) ⟨hb.os, hb.tape, hb.output, hb.size, fun j hj _ => hb.block j hj⟩ (Classical.em _)
  obtain ⟨hv1, hv2, hr3, hk2, hb2⟩ := hv5.appended (by decide) hrow5 (Nat.le_trans hSW hb.size) (Nat.le_refl _) hown hg
  have oth : ∀ {G : Nat} {t : TypeId} {u : Value}, Boxed W G t u → t ≠ 46 → S ≠ G → Boxed (w1.setCell ⟨S, 0, none⟩ v') G t u := fun {G t u} h ht hn => by
    have h5 : Boxed w5 G t u := (hb.block _ h.lt).trans h
    exact ((h5.alloc tmp).kept hg (h5.not_row ht hrow5)).other (fun e => hn e.symm) v'
  have hz1 := oth hx1 (by decide) (by omega)
  have hz2 := oth hx2 (by decide) (by omega)
  have hzX := oth hX (by decide) (by omega)
  have hzT := oth hT (by decide) (by omega)
  have hzT1 := oth hT1 (by decide) (by omega)
  have kf : ∀ B, KeepsFrom B W (w1.setCell ⟨S, 0, none⟩ v') := fun B => (show KeepsFrom B W w5 from ⟨hb.size, fun k o _ hk _ => (hb.block k (Array.getElem?_eq_some_iff.1 hk).1).trans hk⟩).trans (hk2.from _)
  refine ⟨kf B, ⟨hzT.cell.trans hT.cell.symm, hzT1.cell.trans hT1.cell.symm⟩, ⟨⟨rs ++ [r], ⟨v', hv2, by simpa using hr3, trivial⟩, by simp [hc, hr], fun y hy => ?_⟩, (hB.trans (hb.mono hSW)).trans hb2, hz1, hz2⟩, ⟨hzX, hzT, hzT1⟩, kf B2⟩
  rcases List.mem_append.1 hy with h | h
  · exact hlt y h
  · rw [List.mem_singleton.1 h]; exact hr2
theorem stepIn_append_ownT {F : Fence} {n : Nat} {P : Program} (w : World) {ops : Array Oper} {o : Oper} {a : Act} {K : Act → World → Prop} {Q : Exit → Act → World → Prop} {E : Prop}
    (hg : o.guard = none) (s x : Operand) (t : TypeId) (hop : o.op = Op.call { callee := Callee.builtin Builtin.append, args := #[s, x], argTypes := #[t, t] })
    (base : Nat) (e : TypeId) (i : TypeInfo) (z : Value) (size bytes : Nat) (h1 : P.underlying t = some (.slice e)) (h2 : P.info? e = some i) (h3 : i.zero = some z) (h4 : i.size = size) (h5 : i.bytes = bytes) (h6 : z.cells.size = size) (h7 : 0 < size)
    (v : Value) (k : Nat) (xs : List Value) (hs : a.eval s = v) (hown : w.ownsRow base e size v k xs) (ad : Addr) (m c : Nat) (news : List Value) (hx : a.eval x = .slice (some ad) m c) (hn : news.length = m * size)
    (hc : ∀ j u, news[j]? = some u → w.cell? (ad.add j) = some u) (h1c : ∀ u ∈ news, u.oneCell' = true) (b1 : k + m ≤ maxLen) (b2 : (k + m) * bytes ≤ 140737488355328) (b3 : base ≤ w.heap.size)
    (hK : ∀ v' w', w'.ownsRow base e size v' (k + m) (xs ++ news) → w.grownBy w' v.ownBlock → (v' = .slice none 0 0 ↔ v = .slice none 0 0 ∧ m = 0) → K (a.put o.dst v') w') :
    if Region.wanted o (yielded ops a.tmps) = true then Oper.wpIn F n P o a w K Q else E := by
  rw [if_pos (by simp [Region.wanted, hg])]
  obtain ⟨v', w', hrun, r1, r2, r3⟩ := run_append_own (P := P) w base t o.type e i z size bytes h1 h2 h3 h4 h5 h6 h7 v k xs hown ad m c news hn hc h1c b1 b2 b3
  unfold Oper.wpIn
  refine ⟨?_, ?_⟩
  · simp [Oper.about, hop, resolve, Target.leads, Sem.run_pure]
  · rw [Oper.semAt_plain F _ _ (by rw [hop]; intro c hc'; cases hc')]
    simp [execOp, hop, resolve, invoke, builtin, hs, hx, hrun, Result.andThen]
    exact hK _ _ r1 r2 r3
set_option maxRecDepth 100000 in
set_option maxHeartbeats 4000000 in
theorem c_multiplyLists (D : FuncId) (caps : Array Value) (dotv : List Nat → List Nat → Nat) (R M K : Nat) (za zb : List Nat) (a0 a1 : Option Addr) (na nb ca cb : Nat) (w : World) (w0 : IsFloats .f32 w a0 na ca za) (w1 : IsFloats .f32 w a1 nb cb zb) (hD : DotOk D caps dotv w)
    (r1 : 1 ≤ R) (r2 : R ≤ 16) (m1 : 1 ≤ M) (m2 : M ≤ 16) (k1 : 1 ≤ K) (k2 : K ≤ 16) (hna : na = R * M) (hnb : nb = M * K) :
    Calls Try.prog 96 #[.slice a0 na ca, .slice a1 nb cb, .int .i64 M, .func (.func D) #[] caps] w (RetLs ((List.range (R * K)).map (mulF dotv za zb M K)) w) := by
  have hq : (nb : Int) / (M : Int) = (K : Int) := by rw [hnb]; push_cast; exact Int.mul_ediv_cancel_left _ (by omega)
  have hq' : (nb : Int).tdiv (M : Int) = (K : Int) := by rw [Int.tdiv_eq_ediv_of_nonneg (by omega)]; exact hq
  have hm0 : ¬ ((M : Int) = 0) := by omega
  have hn256 : na ≤ 256 := by rw [hna]; exact Nat.mul_le_mul r2 m2
  have hb256 : nb ≤ 256 := by rw [hnb]; exact Nat.mul_le_mul m2 k2
  have hi256 : (nb : Int) ≤ 256 := by omega
  obtain ⟨i0, hi, hz0, hz1, hz2⟩ := info_parts info_f32
  obtain ⟨ba, oa, rfl⟩ := floats_someT w0 (by rw [hna]; exact Nat.mul_pos r1 m1)
  have HI := Lib.hid hi
  have HZ0 := Lib.hid hz0
  have HZ1 := Lib.hid hz1
  have HZ2 := Lib.hid hz2
  have HW0 := Lib.hid w0
  have HNA := Lib.hid hna
  have HDo := Lib.hid hD
  have HT := Lib.hid (fun (W : World) (hb : Below w.heap.size w W) => c_transposeList M K a1 nb cb zb W (w1.kept hb) m2 k1 k2 hnb)
  clear w0 w1 hD hna hnb hi hz0 hz1 hz2
  refine (callsIn_wide (n := 12)).1 ?_
  refine callsIn_of_wp_marks Try.func96 rfl trivial ?_ rfl
  simp only [Try.ntmps96, List.size_toArray, List.length_cons, List.length_nil, Nat.reduceAdd, Nat.reduceSub, Array.replicate_succ, Array.replicate_zero, List.push_toArray, List.append_toArray, List.nil_append, List.cons_append]
  have HB0 := Lib.hid (((Below.refl _ w).alloc (Nat.le_refl _) (.cells #[.int .i64 M] 2)).alloc (by simp) (.cells #[.func (.func D) #[] caps] 70))
  have b6 := (Boxed.new w 2 (.int .i64 M)).alloc (.cells #[.func (.func D) #[] caps] 70)
  have b7 := Boxed.new (w.alloc (.cells #[.int .i64 M] 2)) 70 (.func (.func D) #[] caps)
  rw [World.size_alloc] at b7
  have HB6 := Lib.hid b6
  have HB7 := Lib.hid b7
  clear b6 b7
  gi_wp2_with fail
  refine ⟨trivial, (callsIn_wide.2 (HT.out _ HB0.out)).mono ?_⟩
  rintro e w2 ⟨tb, tc, rfl, ho, hb⟩
  have HO2 := Lib.hid ho
  have b02 : Below w.heap.size w w2 := Below.next HB0.out hb
  have B02 := Lib.hid b02
  have b6 : Boxed w2 w.heap.size 2 (.int .i64 M) := (hb.block _ HB6.out.lt).trans HB6.out
  have b7 : Boxed w2 (w.heap.size + 1) 70 (.func (.func D) #[] caps) := (hb.block _ HB7.out.lt).trans HB7.out
  have c6 := ((b6.alloc (.cells #[.slice tb (turnL zb M K K).length tc] 22)).alloc (.cells #[.slice none 0 0] 22)).cell
  have BX6 := Lib.hid b6
  have BX7 := Lib.hid b7
  have hl2 := b7.lt
  clear ho hb b02 b6 b7 HB6 HB7 HB0
  gi_wp2_with fail
  -- the first call of Chunk
  have HCK := Lib.hid (fun (a : Option Addr) (n c : Nat) (W : World) => c_chunk a n c M m1 W)
  refine ⟨trivial, (callsIn_wide.2 (HCK.out _ _ _ _)).mono ?_⟩
  rintro e w3 ⟨rfl, rfl⟩
  gi_wp2_with fail
  obtain ⟨wp, hwp⟩ : ∃ wp, w2.alloc (.cells #[.slice tb (turnL zb M K K).length tc] 22) = wp := ⟨_, rfl⟩
  have bp : Below w2.heap.size w2 wp := by rw [← hwp]; exact (Below.refl _ w2).alloc (Nat.le_refl _) _
  have b6 : Boxed wp w.heap.size 2 (.int .i64 M) := (bp.block _ BX6.out.lt).trans BX6.out
  have b7 : Boxed wp (w.heap.size + 1) 70 (.func (.func D) #[] caps) := (bp.block _ BX7.out.lt).trans BX7.out
  have b9 : Boxed wp w2.heap.size 22 (.slice tb (turnL zb M K K).length tc) := by rw [← hwp]; exact Boxed.new w2 _ _
  have BP := Lib.hid (Below.next B02.out bp)
  have TP := Lib.hid (HO2.out.isFloats.kept bp)
  obtain ⟨S, hS⟩ : ∃ S, wp.heap.size = S := ⟨_, rfl⟩
  have hS2 : w2.heap.size + 1 = S := by rw [← hS, ← hwp, World.size_alloc]
  rw [hwp]
  obtain ⟨W3, hW3⟩ : ∃ W3, ((wp.alloc (.cells #[.slice none 0 0] 22)).alloc (.cells #[.slice (some ⟨ba, oa, none⟩) na ca] 22)).alloc (.cells #[.int .i64 M] 3) = W3 := ⟨_, rfl⟩
  have bO : Boxed W3 S 22 (.slice none 0 0) := by rw [← hW3, ← hS]; exact ((Boxed.new wp _ _).alloc _).alloc _
  have bO1 : Boxed W3 (S + 1) 22 (.slice (some ⟨ba, oa, none⟩) na ca) := by
    rw [← hW3, ← hS]
    have h := (Boxed.new (wp.alloc (.cells #[.slice none 0 0] 22)) 22 (.slice (some ⟨ba, oa, none⟩) na ca)).alloc (.cells #[.int .i64 M] 3)
    rwa [World.size_alloc] at h
  have bO2 : Boxed W3 (S + 1 + 1) 3 (.int .i64 M) := by
    rw [← hW3, ← hS]
    have h := Boxed.new ((wp.alloc (.cells #[.slice none 0 0] 22)).alloc (.cells #[.slice (some ⟨ba, oa, none⟩) na ca] 22)) 3 (.int .i64 M)
    rwa [World.size_alloc, World.size_alloc] at h
  have hbs := bO1.cell
  have hbn := bO2.cell
  have hs3 : W3.heap.size = S + 3 := by rw [← hW3]; simp [hS]
  have hB3 : Below S wp W3 := by rw [← hW3, ← hS]; exact (((Below.refl _ wp).alloc (Nat.le_refl _) _).alloc (by simp) _).alloc (by simp; omega) _
  rw [hW3]
  have hs0 : w.heap.size + 1 < w2.heap.size := hl2
  clear hW3 hwp bp c6
  have HS2 := Lib.hid hS2
  simp only [hS2, hS]
  have HS := Lib.hid hS
  clear hS2 hS
  have B6 := Lib.hid b6
  have B7 := Lib.hid b7
  have B9 := Lib.hid b9
  clear b6 b7 b9 BX6 BX7
  have hcr : chCnt na M = R := chCnt_full HNA.out m1
  have htl : (turnL zb M K K).length = K * M := turnL_length zb M K K
  have hck : chCnt (turnL zb M K K).length M = K := chCnt_full htl m1
  have hkm : K * M ≤ 256 := Nat.mul_le_mul k2 m2
  have hkm1 : 1 ≤ K * M := Nat.mul_pos k1 m1
  have HTL := Lib.hid htl
  have HCR := Lib.hid hcr
  have HCK2 := Lib.hid hck
  have HBS := Lib.hid hbs
  have HB3 := Lib.hid hB3
  have HEN := Lib.hid (enters_of Try.func126 (by kernel_rfl) rfl)
  obtain ⟨bt, ot, rfl⟩ := floats_someT TP.out (by omega)
  clear htl hcr hck
  have hl3 : S + 1 + 1 < W3.heap.size := by omega
  have HRK := Lib.hid (show R * K ≤ 256 from Nat.mul_le_mul r2 k2)
  have hsS : w.heap.size + 1 < S ∧ w2.heap.size < S := by have := HS2.out; omega
  have hwpS : S ≤ wp.heap.size := by have := HS.out; omega
  have hW3S : S ≤ W3.heap.size := by omega
  have hna1 : na ≤ ca := HW0.out.1
  refine wpIn_rangeFunc_ownH rfl (by omega) (gf := 126) (lb := #[.pointer (some ⟨S + 1, 0, none⟩), .pointer (some ⟨S + 1 + 1, 0, none⟩)]) rfl trivial HEN.out
    (chunk_stopsK 11 (S + 1) (S + 1 + 1) (by omega) (some ⟨ba, oa, none⟩) na ca M m1 (by omega) (by omega) hna1 (.inr ⟨ba, oa, rfl⟩) W3 (by omega) (by omega) hbs hbn) (fun h k => h.trans k) (keepB_b (by omega) (by omega)) (Below.refl _ _) (fun _ => rfl)
    (fun pre W => MulI S wp (.slice (some ⟨ba, oa, none⟩) na ca) (.int .i64 M) (rowsF dotv za zb M K pre) W) (fun _ _ _ => False) (mulI_own hwpS hW3S) (fun _ _ _ _ _ hs _ _ => hs)
    ⟨⟨[], ⟨_, bO, World.ownsRow_nil _ _ _ _, trivial⟩, rfl, by simp⟩, hB3, bO1, bO2⟩
    (fun x a' W => ∃ Bx, S + 1 + 1 < Bx ∧ Boxed W Bx 22 (chW (some ⟨ba, oa, none⟩) na M x.1) ∧ a' = { tmps := #[.slice (some ⟨ba, oa, none⟩) na ca, .slice a1 nb cb, .int .i64 M, .func (.func D) #[] caps, undef, undef, .pointer (some ⟨w.heap.size, 0, none⟩), .pointer (some ⟨w.heap.size + 1, 0, none⟩), .slice none 0 0, .pointer (some ⟨w2.heap.size, 0, none⟩), .pointer (some ⟨S, 0, none⟩), .pointer (some ⟨Bx, 0, none⟩), undef, .slice a1 nb cb, .slice a1 nb cb, .int .i64 nb, .int .i64 M, .int .i64 K, .slice (some ⟨bt, ot, none⟩) (turnL zb M K K).length tc, .slice (some ⟨ba, oa, none⟩) na ca, .int .i64 M, .func (.func 126) #[] #[.pointer (some ⟨S + 1, 0, none⟩), .pointer (some ⟨S + 1 + 1, 0, none⟩)], chW (some ⟨ba, oa, none⟩) na M x.1, undef, undef, undef, undef, undef, undef, undef, undef, undef, undef, undef, undef], defers := [] })
    (fun x a' _ X Y row hs hg hr => by obtain ⟨Bx, h1, h2, h3⟩ := hs; exact ⟨Bx, h1, boxed_own Bx 22 (fun (_ : Unit) => chW (some ⟨ba, oa, none⟩) na M x.1) () X Y row h2 hg (fun r e => (hr r e).2), h3⟩)
    ?assign ?body ?done ?stop
  case assign =>
    intro l pre x W K' hi hK
    have h1 := hi.2.2.1.lt
    have h2 := hi.2.2.2.lt
    simp only [chW, Option.map_some]
    gi_wp2
    exact hK _ _ ((KeepsOthers.alloc _ _).from _) (KeepB.of_below ((Below.refl W.heap.size W).alloc (Nat.le_refl _) _) h1 h2) ((mulI_own (β := Unit) (F := fun _ => rowsF dotv za zb M K pre) (B := W3.heap.size) hwpS hW3S).alloc _ (s := ()) hi) ⟨W.heap.size, h2, Boxed.new W _ _, rfl⟩
  case stop =>
    rintro D' c pre W _ _ h _
    exact h.elim
  case done =>
    rintro D' ys W hD hS2' hM hK
    have hM2 := mulI_own (β := Unit) (F := fun _ => rowsF dotv za zb M K ys) (B := W3.heap.size) hwpS hW3S () W (W.putObj D' (.deferred none)) (some D') hM (grownBy_putObj' W D' _) (fun r e => by cases e; exact ⟨hD, _, hK, rfl⟩)
    obtain ⟨⟨rs, ⟨v, hv, hrow, _⟩, hc, hlt⟩, hB, hx1, hx2⟩ := hM
    have hcS := hv.cell
    have hall := rowsF_all (dotv := dotv) (za := za) (zb := zb) (K := K) (hS2'.trans (congrArg List.range HCR.out))
    obtain ⟨⟨rs2, ⟨v2, hv2, hrow2, _⟩, hc2, hlt2⟩, hB2, _, _⟩ := hM2
    have hvv : v2 = v := by
      have e1 := hv2.cell
      have hbk := (grownBy_putObj' W D' (Obj.deferred none)).block S hv.lt (fun e => by cases e; rw [show W.heap[S]? = _ from hv] at hK; cases hK)
      have e2 : Boxed (W.putObj D' (.deferred none)) S 22 v := hbk.trans hv
      have e3 := e2.cell
      rw [e1] at e3
      exact Option.some.inj e3
    subst hvv
    obtain ⟨a', c', rfl⟩ : ∃ a' c', v2 = .slice a' rs2.length c' := by
      rcases hrow2.2 with ⟨rfl, h0⟩ | ⟨g, c, cur, rfl, _⟩
      · exact ⟨none, 0, by rw [h0]⟩
      · exact ⟨_, _, rfl⟩
    have hbw : w.heap.size ≤ S := by omega
    gi_wp2
    refine ⟨by simp, .inl ⟨_, _, rfl, run_takeDeferred hK, ?_⟩⟩
    exact ⟨_, results_tmp rfl _ _ _, a', c', rs2, rfl, OwnF.base (show OwnF _ S a' c' rs2 from ⟨hrow2, hlt2⟩) hbw, hc2.trans hall, Below.next BP.out (by rw [HS.out]; exact hB2)⟩
  case body =>
    rintro l pre x a' W hl ⟨r, hr⟩ hM ⟨Bx, hBx, bX, rfl⟩ hpN
    have hW : S ≤ W.heap.size := by have := hM.2.1.size; have := HS.out; omega
    have c9 := (hM.2.1.cell (p := ⟨w2.heap.size, 0, none⟩) hsS.2).trans B9.out.cell
    have c6 := (hM.2.1.cell (p := ⟨w.heap.size, 0, none⟩) (show w.heap.size < S by omega)).trans B6.out.cell
    have hsx := hM.2.2.1
    have hsy := hM.2.2.2
    have hT2 : S + 1 + 1 < W.heap.size := hsy.lt
    have hlW := (Array.getElem?_eq_some_iff.1 hr).1
    have hx2 : x.1 < R := by have := x.2; have := HCR.out; omega
    have hpN : pre.length < R := by have := HCR.out; omega
    have HM := Lib.hid hM
    have HX := Lib.hid bX
    clear hM bX
    gi_wp2_with fail
    refine ⟨trivial, (CallsIn.inRound l (callsIn_wide.2 (HCK.out _ _ _ _))).mono ?_⟩
    rintro e w4 ⟨rfl, rfl⟩
    gi_wp2_with fail
    obtain ⟨T, hT⟩ : ∃ T, W.heap.size = T := ⟨_, rfl⟩
    obtain ⟨W4, hW4⟩ : ∃ W4, (W.alloc (.cells #[.slice (some ⟨bt, ot, none⟩) (turnL zb M K K).length tc] 22)).alloc (.cells #[.int .i64 M] 3) = W4 := ⟨_, rfl⟩
    have hr4 : W4.heap[l]? = some (.loop r) := by
      rw [← hW4]
      exact ((Below.heap_alloc (W.alloc _) _ l (by rw [World.size_alloc]; omega)).trans (Below.heap_alloc W _ l hlW)).trans hr
    have hM4 : MulI S wp (.slice (some ⟨ba, oa, none⟩) na ca) (.int .i64 M) (rowsF dotv za zb M K pre) W4 := by
      rw [← hW4]
      exact (mulI_own (β := Unit) (F := fun _ => rowsF dotv za zb M K pre) (B := W3.heap.size) hwpS hW3S).alloc _ (s := ()) ((mulI_own (β := Unit) (F := fun _ => rowsF dotv za zb M K pre) (B := W3.heap.size) hwpS hW3S).alloc _ (s := ()) HM.out)
    have bX4 : Boxed W4 Bx 22 (chW (some ⟨ba, oa, none⟩) na M x.1) := by rw [← hW4]; exact (HX.out.alloc _).alloc _
    have bT4 : Boxed W4 T 22 (.slice (some ⟨bt, ot, none⟩) (turnL zb M K K).length tc) := by rw [← hW4, ← hT]; exact (Boxed.new W _ _).alloc _
    have bT5 : Boxed W4 (T + 1) 3 (.int .i64 M) := by
      rw [← hW4, ← hT]
      have h := Boxed.new (W.alloc (.cells #[.slice (some ⟨bt, ot, none⟩) (turnL zb M K K).length tc] 22)) 3 (.int .i64 M)
      rwa [World.size_alloc] at h
    have hs4 : W4.heap.size = T + 2 := by rw [← hW4]; simp [hT]
    have hk4 : KeepsFrom W3.heap.size W W4 := by rw [← hW4]; exact ((KeepsOthers.alloc _ _).from _).trans ((KeepsOthers.alloc _ _).from _)
    have hTS : S < T := by omega
    have hWT : W.heap.size ≤ W4.heap.size := by omega
    rw [hW4]
    simp only [hT]
    have HT5 := Lib.hid hT
    clear hW4 hT c9 c6 hr hlW
    refine wpIn_rangeFunc_ownN (l₀ := l) (r₀ := r) rfl hr4 (by omega) (gf := 126) (lb := #[.pointer (some ⟨T, 0, none⟩), .pointer (some ⟨T + 1, 0, none⟩)]) rfl trivial HEN.out
      ((chunk_stopsK 9 T (T + 1) (by omega) (some ⟨bt, ot, none⟩) (turnL zb M K K).length tc M m1 (by omega) (by have := HTL.out; omega) TP.out.1 (.inr ⟨bt, ot, rfl⟩) W4 (by omega) (by omega) bT4.cell bT5.cell).inRound l) (fun h k => h.trans k) (keepB_b (by omega) (by omega)) (Below.refl _ _) (fun _ => rfl)
      (fun pre' W' => MulI S wp (.slice (some ⟨ba, oa, none⟩) na ca) (.int .i64 M) (rowsF dotv za zb M K pre ++ innF dotv za zb M K x.1 pre') W' ∧ ((Boxed W' Bx 22 (chW (some ⟨ba, oa, none⟩) na M x.1) ∧ (Boxed W' T 22 (.slice (some ⟨bt, ot, none⟩) (turnL zb M K K).length tc) ∧ Boxed W' (T + 1) 3 (.int .i64 M))) ∧ KeepsFrom W3.heap.size W W'))
      (fun _ _ _ => False) (OwnFrom.and (mulI_own hwpS (by omega)) (OwnFrom.and (OwnFrom.and boxed_ownT (OwnFrom.and boxed_ownT boxed_ownT)) (ownFrom_keepsFrom hWT))) (fun _ _ _ _ _ hs _ _ => hs)
      ⟨by rw [show rowsF dotv za zb M K pre ++ innF dotv za zb M K x.1 ([] : List (ChI (turnL zb M K K).length M)) = rowsF dotv za zb M K pre by simp [innF]]; exact hM4, ⟨bX4, bT4, bT5⟩, hk4⟩
      (fun y a'' _ => a'' = { tmps := #[.slice (some ⟨ba, oa, none⟩) na ca, .slice a1 nb cb, .int .i64 M, .func (.func D) #[] caps, undef, undef, .pointer (some ⟨w.heap.size, 0, none⟩), .pointer (some ⟨w.heap.size + 1, 0, none⟩), .slice none 0 0, .pointer (some ⟨w2.heap.size, 0, none⟩), .pointer (some ⟨S, 0, none⟩), .pointer (some ⟨Bx, 0, none⟩), chW (some ⟨bt, ot, none⟩) (turnL zb M K K).length M y.1, .slice a1 nb cb, .slice a1 nb cb, .int .i64 nb, .int .i64 M, .int .i64 K, .slice (some ⟨bt, ot, none⟩) (turnL zb M K K).length tc, .slice (some ⟨ba, oa, none⟩) na ca, .int .i64 M, .func (.func 126) #[] #[.pointer (some ⟨S + 1, 0, none⟩), .pointer (some ⟨S + 1 + 1, 0, none⟩)], chW (some ⟨ba, oa, none⟩) na M x.1, .slice (some ⟨bt, ot, none⟩) (turnL zb M K K).length tc, .int .i64 M, .func (.func 126) #[] #[.pointer (some ⟨T, 0, none⟩), .pointer (some ⟨T + 1, 0, none⟩)], chW (some ⟨bt, ot, none⟩) (turnL zb M K K).length M y.1, undef, undef, undef, undef, undef, undef, undef, undef], defers := [] }) (fun _ _ _ _ _ _ hs _ _ => hs) ?assign2 ?body2 ?done2 ?stop2
    case assign2 =>
      rintro l2 pre' y W' K' hi hK
      gi_wp2
      exact hK _ _ (KeepsFrom.refl _ _) (KeepB.refl _ _ _) hi rfl
    case stop2 =>
      rintro c pre' W' _ h
      exact h.elim
    case done2 =>
      rintro ys W' hS2' ⟨hM5, _, hKF⟩
      rw [innF_all (hS2'.trans (congrArg List.range HCK2.out)), ← rowsF_snoc] at hM5
      gi_wp2
      exact ⟨hKF, ⟨hM5.2.2.1.cell.trans hsx.cell.symm, hM5.2.2.2.cell.trans hsy.cell.symm⟩, hM5⟩
    case body2 =>
      rintro l2 pre' y a'' W' _ _ ⟨⟨⟨rs, ⟨v, hv, hrow, _⟩, hc, hlt⟩, hB, hx1', hx2'⟩, ⟨hX5, hT5, hT6⟩, hKF⟩ rfl hpN2
      have hcS := hv.cell
      have hfS := hv.frozen
      have HVL := Lib.hid hv.lt
      have hc7 := (hB.cell (p := ⟨w.heap.size + 1, 0, none⟩) hsS.1).trans B7.out.cell
      have hcX := hX5.cell
      have hSW : S ≤ W'.heap.size := by have := hB.size; have := HS.out; omega
      have hy2 : y.1 < K := by have := y.2; have := HCK2.out; omega
      have hpN2 : pre'.length < K := by have := HCK2.out; omega
      have hbw : Below wp.heap.size wp W' := by rw [HS.out]; exact hB
      have e1 : chLen na M x.1 = M := chLen_full HNA.out hx2
      have e2 : chLen (turnL zb M K K).length M y.1 = M := chLen_full HTL.out hy2
      have HAL := Lib.hid (fun (W'' : World) (hb : Below W'.heap.size W' W'') => (show Calls Try.prog D (#[chW (some ⟨ba, oa, none⟩) na M x.1, chW (some ⟨bt, ot, none⟩) (turnL zb M K K).length M y.1] ++ caps) W'' (RetX (dotv (rowL za M x.1) (colL zb M K y.1)) W'') by
        have hq1 := Nat.le_of_lt ((chCnt_lt (n := na) (k := x.1) (m := M) m1).1 x.2)
        have hq2 := Nat.le_of_lt ((chCnt_lt (n := (turnL zb M K K).length) (k := y.1) (m := M) m1).1 y.2)
        have hbb : Below w.heap.size w W'' := Below.next (Below.next BP.out hbw) hb
        obtain ⟨q1, q2⟩ := parts_oneT (m := M) (HW0.out.kept hbb) hq1
        obtain ⟨p1, p2⟩ := parts_oneT (m := M) ((TP.out.kept hbw).kept hb) hq2
        rw [q2, e1] at q1
        rw [p2, e2, turn_chunk K hy2] at p1
        simp only [chW, Option.map_some, e1, e2]
        exact HDo.out.2 _ _ _ _ M M M W'' m2 m1 q1 p1 hbb))
      have hv5 : ∀ w5, Below W'.heap.size W' w5 → Boxed w5 S 22 v ∧ w5.ownsRow S 46 1 v rs.length (rs.map (Value.float .f32)) := fun w5 hb => ⟨(hb.block S hv.lt).trans hv, hrow.kept (row := none) ⟨hb.os, hb.tape, hb.output, hb.size, fun j hj _ => hb.block j hj⟩ (Classical.em _)⟩
      have hrl : rs.length ≤ 256 := by
        have h1 := congrArg List.length hc
        rw [List.length_map, List.length_append, rowsF_len] at h1
        have h2 : (pre.length + 1) * K ≤ R * K := Nat.mul_le_mul_right K hpN
        have h3 : (pre.length + 1) * K = pre.length * K + K := Nat.succ_mul _ _
        have h4 : (innF dotv za zb M K x.1 pre').length = pre'.length := by simp [innF]
        have := HRK.out
        omega
      have hi := HI.out
      have hz0 := HZ0.out
      have hz1 := HZ1.out
      have hz2 := HZ2.out
      have HI' := Lib.hid hi
      have HE0 := Lib.hid HEN.out
      clear hi hz0 hz1 hz2 e1 e2 hbw
      gi_wp2_with fail
      refine wpIn_region_any (by kernel_rfl) ?_
      try (change wpAnyIn _ _ _ _ _ _ _ _ _ (World.drew _))
      refine wpAnyIn_ready (rs := [0, 1, 2, 3]) (by kernel_rfl) (by simp) ?_
      refine AllReadyIn.cons rfl (fun K' hK => ?_) ?_
      · skip
        go_simp
        refine hK _ _ ?_
        clear hK K'
        refine wpAnyIn_ready (rs := [1, 2, 3]) (by kernel_rfl) (by simp) ?_
        refine AllReadyIn.cons rfl (fun K' hK => ?_) ?_
        · skip
          go_simp
          refine hK _ _ ?_
          clear hK K'
          refine wpAnyIn_ready (rs := [2, 3]) (by kernel_rfl) (by simp) ?_
          refine AllReadyIn.cons rfl (fun K' hK => ?_) ?_
          · skip
            go_simp
            refine hK _ _ ?_
            clear hK K'
            refine wpAnyIn_ready (rs := [3]) (by kernel_rfl) (by simp) ?_
            refine AllReadyIn.cons rfl (fun K' hK => ?_) AllReadyIn.nil
            go_simp
            refine hK _ _ ?_
            clear hK K'
            refine wpAnyIn_ready (rs := [4]) (by kernel_rfl) (by simp) ?_
            refine AllReadyIn.cons rfl (fun K' hK => ?_) AllReadyIn.nil
            as_aux_lemma =>
              go_simp
              refine ⟨trivial, ?_⟩
              rw [HDo.out.1, Oper.uponIn_enter]
              refine ⟨fun _ => by decide, (CallsIn.inRound l2 (CallsIn.inRound l (callsIn_wide.2 (HAL.out _ (by simpa using (Below.refl W'.heap.size W').drew))))).mono ?_⟩
              rintro e w5 ⟨r, rfl, hr, hr2, hb5⟩
              have hb5' : Below W'.heap.size W' w5 := ((Below.refl W'.heap.size W').drew).trans hb5
              have HB5 := Lib.hid hb5'
              have hcS5 := (hb5'.cell (p := ⟨S, 0, none⟩) HVL.out).trans hcS
              have HV5 := Lib.hid (hv5 w5 hb5')
              have hn5 : ¬ w5.heap.size = S := by have := hb5'.size; have := HVL.out; omega
              have hn5' : ¬ S = w5.heap.size := by omega
              have hl5 : S < w5.heap.size := by have := hb5'.size; have := HVL.out; omega
              have HS5 := Lib.hid (Nat.le_trans hSW hb5'.size)
              clear hb5 hb5'
              refine hK _ _ ?_
              clear hK K'
              refine wpAnyIn_ready (rs := [5]) (by kernel_rfl) (by simp) ?_
              refine AllReadyIn.cons rfl (fun K' hK => ?_) AllReadyIn.nil
              go_simp
              refine hK _ _ ?_
              clear hK K'
              refine wpAnyIn_ready (rs := [6]) (by kernel_rfl) (by simp) ?_
              refine AllReadyIn.cons rfl (fun K' hK => ?_) AllReadyIn.nil
              refine stepIn_append_ownT _ rfl (.tmp 27) (.tmp 32) 22 rfl S 46 i0 (.float .f32 0) 1 4 Try.underlying22 HI.out HZ0.out HZ1.out HZ2.out rfl (by decide) v rs.length (rs.map (Value.float .f32)) rfl (HV5.out.2.alloc _) ⟨w5.heap.size, 0, none⟩ 1 1 [.float .f32 r] rfl rfl (cell_one_new _ _ _) (by simp [Value.oneCell']) (by unfold maxLen; omega) (by omega) (by have := HS5.out; simp; omega) ?_
              intro v' w1 hown' hgrow _
              obtain ⟨g', cap', rfl⟩ := ownsRow_succ hown'
              have hv1 : Boxed w1 S 22 v := (HV5.out.1.alloc _).kept hgrow (HV5.out.1.not_row (by decide) HV5.out.2)
              have hc1 := hv1.cell
              have hf1 := hv1.frozen
              refine hK _ _ ?_
              clear hK K'
              refine wpAnyIn_ready (rs := [7]) (by kernel_rfl) (by simp) ?_
              refine AllReadyIn.cons rfl (fun K' hK => ?_) AllReadyIn.nil
              go_simp
              refine hK _ _ ?_
              clear hK K'
              refine wpAnyIn_done (by kernel_rfl) ?_ _
              gi_wp2_with fail
              obtain ⟨e1, e2, e3, e4, e5⟩ := mul_end W4.heap.size W3.heap.size hv hrow hc hlt hB hSW hx1' hx2' hX5 hT5 hT6 hTS (by omega) HB5.out hr hr2 hown' hgrow
              exact ⟨e1, e2, by rw [innF_snoc, ← List.append_assoc]; exact e3, e4, hKF.trans e5⟩
          refine AllReadyIn.cons rfl (fun K' hK => ?_) AllReadyIn.nil
          go_simp
          refine hK _ _ ?_
          clear hK K'
          refine wpAnyIn_ready (rs := [2]) (by kernel_rfl) (by simp) ?_
          refine AllReadyIn.cons rfl (fun K' hK => ?_) AllReadyIn.nil
          go_simp
          refine hK _ _ ?_
          clear hK K'
          refine wpAnyIn_ready (rs := [4]) (by kernel_rfl) (by simp) ?_
          refine AllReadyIn.cons rfl (fun K' hK => ?_) AllReadyIn.nil
          as_aux_lemma =>
            go_simp
            refine ⟨trivial, ?_⟩
            rw [HDo.out.1, Oper.uponIn_enter]
            refine ⟨fun _ => by decide, (CallsIn.inRound l2 (CallsIn.inRound l (callsIn_wide.2 (HAL.out _ (by simpa using (Below.refl W'.heap.size W').drew))))).mono ?_⟩
            rintro e w5 ⟨r, rfl, hr, hr2, hb5⟩
            have hb5' : Below W'.heap.size W' w5 := ((Below.refl W'.heap.size W').drew).trans hb5
            have HB5 := Lib.hid hb5'
            have hcS5 := (hb5'.cell (p := ⟨S, 0, none⟩) HVL.out).trans hcS
            have HV5 := Lib.hid (hv5 w5 hb5')
            have hn5 : ¬ w5.heap.size = S := by have := hb5'.size; have := HVL.out; omega
            have hn5' : ¬ S = w5.heap.size := by omega
            have hl5 : S < w5.heap.size := by have := hb5'.size; have := HVL.out; omega
            have HS5 := Lib.hid (Nat.le_trans hSW hb5'.size)
            clear hb5 hb5'
            refine hK _ _ ?_
            clear hK K'
            refine wpAnyIn_ready (rs := [5]) (by kernel_rfl) (by simp) ?_
            refine AllReadyIn.cons rfl (fun K' hK => ?_) AllReadyIn.nil
            go_simp
            refine hK _ _ ?_
            clear hK K'
            refine wpAnyIn_ready (rs := [6]) (by kernel_rfl) (by simp) ?_
            refine AllReadyIn.cons rfl (fun K' hK => ?_) AllReadyIn.nil
            refine stepIn_append_ownT _ rfl (.tmp 27) (.tmp 32) 22 rfl S 46 i0 (.float .f32 0) 1 4 Try.underlying22 HI.out HZ0.out HZ1.out HZ2.out rfl (by decide) v rs.length (rs.map (Value.float .f32)) rfl (HV5.out.2.alloc _) ⟨w5.heap.size, 0, none⟩ 1 1 [.float .f32 r] rfl rfl (cell_one_new _ _ _) (by simp [Value.oneCell']) (by unfold maxLen; omega) (by omega) (by have := HS5.out; simp; omega) ?_
            intro v' w1 hown' hgrow _
            obtain ⟨g', cap', rfl⟩ := ownsRow_succ hown'
            have hv1 : Boxed w1 S 22 v := (HV5.out.1.alloc _).kept hgrow (HV5.out.1.not_row (by decide) HV5.out.2)
            have hc1 := hv1.cell
            have hf1 := hv1.frozen
            refine hK _ _ ?_
            clear hK K'
            refine wpAnyIn_ready (rs := [7]) (by kernel_rfl) (by simp) ?_
            refine AllReadyIn.cons rfl (fun K' hK => ?_) AllReadyIn.nil
            go_simp
            refine hK _ _ ?_
            clear hK K'
            refine wpAnyIn_done (by kernel_rfl) ?_ _
            gi_wp2_with fail
            obtain ⟨e1, e2, e3, e4, e5⟩ := mul_end W4.heap.size W3.heap.size hv hrow hc hlt hB hSW hx1' hx2' hX5 hT5 hT6 hTS (by omega) HB5.out hr hr2 hown' hgrow
            exact ⟨e1, e2, by rw [innF_snoc, ← List.append_assoc]; exact e3, e4, hKF.trans e5⟩
        refine AllReadyIn.cons rfl (fun K' hK => ?_) ?_
        · skip
          go_simp
          refine hK _ _ ?_
          clear hK K'
          refine wpAnyIn_ready (rs := [1, 3]) (by kernel_rfl) (by simp) ?_
          refine AllReadyIn.cons rfl (fun K' hK => ?_) ?_
          · skip
            go_simp
            refine hK _ _ ?_
            clear hK K'
            refine wpAnyIn_ready (rs := [3]) (by kernel_rfl) (by simp) ?_
            refine AllReadyIn.cons rfl (fun K' hK => ?_) AllReadyIn.nil
            go_simp
            refine hK _ _ ?_
            clear hK K'
            refine wpAnyIn_ready (rs := [4]) (by kernel_rfl) (by simp) ?_
            refine AllReadyIn.cons rfl (fun K' hK => ?_) AllReadyIn.nil
            as_aux_lemma =>
              go_simp
              refine ⟨trivial, ?_⟩
              rw [HDo.out.1, Oper.uponIn_enter]
              refine ⟨fun _ => by decide, (CallsIn.inRound l2 (CallsIn.inRound l (callsIn_wide.2 (HAL.out _ (by simpa using (Below.refl W'.heap.size W').drew))))).mono ?_⟩
              rintro e w5 ⟨r, rfl, hr, hr2, hb5⟩
              have hb5' : Below W'.heap.size W' w5 := ((Below.refl W'.heap.size W').drew).trans hb5
              have HB5 := Lib.hid hb5'
              have hcS5 := (hb5'.cell (p := ⟨S, 0, none⟩) HVL.out).trans hcS
              have HV5 := Lib.hid (hv5 w5 hb5')
              have hn5 : ¬ w5.heap.size = S := by have := hb5'.size; have := HVL.out; omega
              have hn5' : ¬ S = w5.heap.size := by omega
              have hl5 : S < w5.heap.size := by have := hb5'.size; have := HVL.out; omega
              have HS5 := Lib.hid (Nat.le_trans hSW hb5'.size)
              clear hb5 hb5'
              refine hK _ _ ?_
              clear hK K'
              refine wpAnyIn_ready (rs := [5]) (by kernel_rfl) (by simp) ?_
              refine AllReadyIn.cons rfl (fun K' hK => ?_) AllReadyIn.nil
              go_simp
              refine hK _ _ ?_
              clear hK K'
              refine wpAnyIn_ready (rs := [6]) (by kernel_rfl) (by simp) ?_
              refine AllReadyIn.cons rfl (fun K' hK => ?_) AllReadyIn.nil
              refine stepIn_append_ownT _ rfl (.tmp 27) (.tmp 32) 22 rfl S 46 i0 (.float .f32 0) 1 4 Try.underlying22 HI.out HZ0.out HZ1.out HZ2.out rfl (by decide) v rs.length (rs.map (Value.float .f32)) rfl (HV5.out.2.alloc _) ⟨w5.heap.size, 0, none⟩ 1 1 [.float .f32 r] rfl rfl (cell_one_new _ _ _) (by simp [Value.oneCell']) (by unfold maxLen; omega) (by omega) (by have := HS5.out; simp; omega) ?_
              intro v' w1 hown' hgrow _
              obtain ⟨g', cap', rfl⟩ := ownsRow_succ hown'
              have hv1 : Boxed w1 S 22 v := (HV5.out.1.alloc _).kept hgrow (HV5.out.1.not_row (by decide) HV5.out.2)
              have hc1 := hv1.cell
              have hf1 := hv1.frozen
              refine hK _ _ ?_
              clear hK K'
              refine wpAnyIn_ready (rs := [7]) (by kernel_rfl) (by simp) ?_
              refine AllReadyIn.cons rfl (fun K' hK => ?_) AllReadyIn.nil
              go_simp
              refine hK _ _ ?_
              clear hK K'
              refine wpAnyIn_done (by kernel_rfl) ?_ _
              gi_wp2_with fail
              obtain ⟨e1, e2, e3, e4, e5⟩ := mul_end W4.heap.size W3.heap.size hv hrow hc hlt hB hSW hx1' hx2' hX5 hT5 hT6 hTS (by omega) HB5.out hr hr2 hown' hgrow
              exact ⟨e1, e2, by rw [innF_snoc, ← List.append_assoc]; exact e3, e4, hKF.trans e5⟩
          refine AllReadyIn.cons rfl (fun K' hK => ?_) AllReadyIn.nil
          go_simp
          refine hK _ _ ?_
          clear hK K'
          refine wpAnyIn_ready (rs := [1]) (by kernel_rfl) (by simp) ?_
          refine AllReadyIn.cons rfl (fun K' hK => ?_) AllReadyIn.nil
          go_simp
          refine hK _ _ ?_
          clear hK K'
          refine wpAnyIn_ready (rs := [4]) (by kernel_rfl) (by simp) ?_
          refine AllReadyIn.cons rfl (fun K' hK => ?_) AllReadyIn.nil
          as_aux_lemma =>
            go_simp
            refine ⟨trivial, ?_⟩
            rw [HDo.out.1, Oper.uponIn_enter]
            refine ⟨fun _ => by decide, (CallsIn.inRound l2 (CallsIn.inRound l (callsIn_wide.2 (HAL.out _ (by simpa using (Below.refl W'.heap.size W').drew))))).mono ?_⟩
            rintro e w5 ⟨r, rfl, hr, hr2, hb5⟩
            have hb5' : Below W'.heap.size W' w5 := ((Below.refl W'.heap.size W').drew).trans hb5
            have HB5 := Lib.hid hb5'
            have hcS5 := (hb5'.cell (p := ⟨S, 0, none⟩) HVL.out).trans hcS
            have HV5 := Lib.hid (hv5 w5 hb5')
            have hn5 : ¬ w5.heap.size = S := by have := hb5'.size; have := HVL.out; omega
            have hn5' : ¬ S = w5.heap.size := by omega
            have hl5 : S < w5.heap.size := by have := hb5'.size; have := HVL.out; omega
            have HS5 := Lib.hid (Nat.le_trans hSW hb5'.size)
            clear hb5 hb5'
            refine hK _ _ ?_
            clear hK K'
            refine wpAnyIn_ready (rs := [5]) (by kernel_rfl) (by simp) ?_
            refine AllReadyIn.cons rfl (fun K' hK => ?_) AllReadyIn.nil
            go_simp
            refine hK _ _ ?_
            clear hK K'
            refine wpAnyIn_ready (rs := [6]) (by kernel_rfl) (by simp) ?_
            refine AllReadyIn.cons rfl (fun K' hK => ?_) AllReadyIn.nil
            refine stepIn_append_ownT _ rfl (.tmp 27) (.tmp 32) 22 rfl S 46 i0 (.float .f32 0) 1 4 Try.underlying22 HI.out HZ0.out HZ1.out HZ2.out rfl (by decide) v rs.length (rs.map (Value.float .f32)) rfl (HV5.out.2.alloc _) ⟨w5.heap.size, 0, none⟩ 1 1 [.float .f32 r] rfl rfl (cell_one_new _ _ _) (by simp [Value.oneCell']) (by unfold maxLen; omega) (by omega) (by have := HS5.out; simp; omega) ?_
            intro v' w1 hown' hgrow _
            obtain ⟨g', cap', rfl⟩ := ownsRow_succ hown'
            have hv1 : Boxed w1 S 22 v := (HV5.out.1.alloc _).kept hgrow (HV5.out.1.not_row (by decide) HV5.out.2)
            have hc1 := hv1.cell
            have hf1 := hv1.frozen
            refine hK _ _ ?_
            clear hK K'
            refine wpAnyIn_ready (rs := [7]) (by kernel_rfl) (by simp) ?_
            refine AllReadyIn.cons rfl (fun K' hK => ?_) AllReadyIn.nil
            go_simp
            refine hK _ _ ?_
            clear hK K'
            refine wpAnyIn_done (by kernel_rfl) ?_ _
            gi_wp2_with fail
            obtain ⟨e1, e2, e3, e4, e5⟩ := mul_end W4.heap.size W3.heap.size hv hrow hc hlt hB hSW hx1' hx2' hX5 hT5 hT6 hTS (by omega) HB5.out hr hr2 hown' hgrow
            exact ⟨e1, e2, by rw [innF_snoc, ← List.append_assoc]; exact e3, e4, hKF.trans e5⟩
        refine AllReadyIn.cons rfl (fun K' hK => ?_) AllReadyIn.nil
        go_simp
        refine hK _ _ ?_
        clear hK K'
        refine wpAnyIn_ready (rs := [1, 2]) (by kernel_rfl) (by simp) ?_
        refine AllReadyIn.cons rfl (fun K' hK => ?_) ?_
        · skip
          go_simp
          refine hK _ _ ?_
          clear hK K'
          refine wpAnyIn_ready (rs := [2]) (by kernel_rfl) (by simp) ?_
          refine AllReadyIn.cons rfl (fun K' hK => ?_) AllReadyIn.nil
          go_simp
          refine hK _ _ ?_
          clear hK K'
          refine wpAnyIn_ready (rs := [4]) (by kernel_rfl) (by simp) ?_
          refine AllReadyIn.cons rfl (fun K' hK => ?_) AllReadyIn.nil
          as_aux_lemma =>
            go_simp
            refine ⟨trivial, ?_⟩
            rw [HDo.out.1, Oper.uponIn_enter]
            refine ⟨fun _ => by decide, (CallsIn.inRound l2 (CallsIn.inRound l (callsIn_wide.2 (HAL.out _ (by simpa using (Below.refl W'.heap.size W').drew))))).mono ?_⟩
            rintro e w5 ⟨r, rfl, hr, hr2, hb5⟩
            have hb5' : Below W'.heap.size W' w5 := ((Below.refl W'.heap.size W').drew).trans hb5
            have HB5 := Lib.hid hb5'
            have hcS5 := (hb5'.cell (p := ⟨S, 0, none⟩) HVL.out).trans hcS
            have HV5 := Lib.hid (hv5 w5 hb5')
            have hn5 : ¬ w5.heap.size = S := by have := hb5'.size; have := HVL.out; omega
            have hn5' : ¬ S = w5.heap.size := by omega
            have hl5 : S < w5.heap.size := by have := hb5'.size; have := HVL.out; omega
            have HS5 := Lib.hid (Nat.le_trans hSW hb5'.size)
            clear hb5 hb5'
            refine hK _ _ ?_
            clear hK K'
            refine wpAnyIn_ready (rs := [5]) (by kernel_rfl) (by simp) ?_
            refine AllReadyIn.cons rfl (fun K' hK => ?_) AllReadyIn.nil
            go_simp
            refine hK _ _ ?_
            clear hK K'
            refine wpAnyIn_ready (rs := [6]) (by kernel_rfl) (by simp) ?_
            refine AllReadyIn.cons rfl (fun K' hK => ?_) AllReadyIn.nil
            refine stepIn_append_ownT _ rfl (.tmp 27) (.tmp 32) 22 rfl S 46 i0 (.float .f32 0) 1 4 Try.underlying22 HI.out HZ0.out HZ1.out HZ2.out rfl (by decide) v rs.length (rs.map (Value.float .f32)) rfl (HV5.out.2.alloc _) ⟨w5.heap.size, 0, none⟩ 1 1 [.float .f32 r] rfl rfl (cell_one_new _ _ _) (by simp [Value.oneCell']) (by unfold maxLen; omega) (by omega) (by have := HS5.out; simp; omega) ?_
            intro v' w1 hown' hgrow _
            obtain ⟨g', cap', rfl⟩ := ownsRow_succ hown'
            have hv1 : Boxed w1 S 22 v := (HV5.out.1.alloc _).kept hgrow (HV5.out.1.not_row (by decide) HV5.out.2)
            have hc1 := hv1.cell
            have hf1 := hv1.frozen
            refine hK _ _ ?_
            clear hK K'
            refine wpAnyIn_ready (rs := [7]) (by kernel_rfl) (by simp) ?_
            refine AllReadyIn.cons rfl (fun K' hK => ?_) AllReadyIn.nil
            go_simp
            refine hK _ _ ?_
            clear hK K'
            refine wpAnyIn_done (by kernel_rfl) ?_ _
            gi_wp2_with fail
            obtain ⟨e1, e2, e3, e4, e5⟩ := mul_end W4.heap.size W3.heap.size hv hrow hc hlt hB hSW hx1' hx2' hX5 hT5 hT6 hTS (by omega) HB5.out hr hr2 hown' hgrow
            exact ⟨e1, e2, by rw [innF_snoc, ← List.append_assoc]; exact e3, e4, hKF.trans e5⟩
        refine AllReadyIn.cons rfl (fun K' hK => ?_) AllReadyIn.nil
        go_simp
        refine hK _ _ ?_
        clear hK K'
        refine wpAnyIn_ready (rs := [1]) (by kernel_rfl) (by simp) ?_
        refine AllReadyIn.cons rfl (fun K' hK => ?_) AllReadyIn.nil
        go_simp
        refine hK _ _ ?_
        clear hK K'
        refine wpAnyIn_ready (rs := [4]) (by kernel_rfl) (by simp) ?_
        refine AllReadyIn.cons rfl (fun K' hK => ?_) AllReadyIn.nil
        as_aux_lemma =>
          go_simp
          refine ⟨trivial, ?_⟩
          rw [HDo.out.1, Oper.uponIn_enter]
          refine ⟨fun _ => by decide, (CallsIn.inRound l2 (CallsIn.inRound l (callsIn_wide.2 (HAL.out _ (by simpa using (Below.refl W'.heap.size W').drew))))).mono ?_⟩
          rintro e w5 ⟨r, rfl, hr, hr2, hb5⟩
          have hb5' : Below W'.heap.size W' w5 := ((Below.refl W'.heap.size W').drew).trans hb5
          have HB5 := Lib.hid hb5'
          have hcS5 := (hb5'.cell (p := ⟨S, 0, none⟩) HVL.out).trans hcS
          have HV5 := Lib.hid (hv5 w5 hb5')
          have hn5 : ¬ w5.heap.size = S := by have := hb5'.size; have := HVL.out; omega
          have hn5' : ¬ S = w5.heap.size := by omega
          have hl5 : S < w5.heap.size := by have := hb5'.size; have := HVL.out; omega
          have HS5 := Lib.hid (Nat.le_trans hSW hb5'.size)
          clear hb5 hb5'
          refine hK _ _ ?_
          clear hK K'
          refine wpAnyIn_ready (rs := [5]) (by kernel_rfl) (by simp) ?_
          refine AllReadyIn.cons rfl (fun K' hK => ?_) AllReadyIn.nil
          go_simp
          refine hK _ _ ?_
          clear hK K'
          refine wpAnyIn_ready (rs := [6]) (by kernel_rfl) (by simp) ?_
          refine AllReadyIn.cons rfl (fun K' hK => ?_) AllReadyIn.nil
          refine stepIn_append_ownT _ rfl (.tmp 27) (.tmp 32) 22 rfl S 46 i0 (.float .f32 0) 1 4 Try.underlying22 HI.out HZ0.out HZ1.out HZ2.out rfl (by decide) v rs.length (rs.map (Value.float .f32)) rfl (HV5.out.2.alloc _) ⟨w5.heap.size, 0, none⟩ 1 1 [.float .f32 r] rfl rfl (cell_one_new _ _ _) (by simp [Value.oneCell']) (by unfold maxLen; omega) (by omega) (by have := HS5.out; simp; omega) ?_
          intro v' w1 hown' hgrow _
          obtain ⟨g', cap', rfl⟩ := ownsRow_succ hown'
          have hv1 : Boxed w1 S 22 v := (HV5.out.1.alloc _).kept hgrow (HV5.out.1.not_row (by decide) HV5.out.2)
          have hc1 := hv1.cell
          have hf1 := hv1.frozen
          refine hK _ _ ?_
          clear hK K'
          refine wpAnyIn_ready (rs := [7]) (by kernel_rfl) (by simp) ?_
          refine AllReadyIn.cons rfl (fun K' hK => ?_) AllReadyIn.nil
          go_simp
          refine hK _ _ ?_
          clear hK K'
          refine wpAnyIn_done (by kernel_rfl) ?_ _
          gi_wp2_with fail
          obtain ⟨e1, e2, e3, e4, e5⟩ := mul_end W4.heap.size W3.heap.size hv hrow hc hlt hB hSW hx1' hx2' hX5 hT5 hT6 hTS (by omega) HB5.out hr hr2 hown' hgrow
          exact ⟨e1, e2, by rw [innF_snoc, ← List.append_assoc]; exact e3, e4, hKF.trans e5⟩
      refine AllReadyIn.cons rfl (fun K' hK => ?_) ?_
      · skip
        go_simp
        refine hK _ _ ?_
        clear hK K'
        refine wpAnyIn_ready (rs := [0, 2, 3]) (by kernel_rfl) (by simp) ?_
        refine AllReadyIn.cons rfl (fun K' hK => ?_) ?_
        · skip
          go_simp
          refine hK _ _ ?_
          clear hK K'
          refine wpAnyIn_ready (rs := [2, 3]) (by kernel_rfl) (by simp) ?_
          refine AllReadyIn.cons rfl (fun K' hK => ?_) ?_
          · skip
            go_simp
            refine hK _ _ ?_
            clear hK K'
            refine wpAnyIn_ready (rs := [3]) (by kernel_rfl) (by simp) ?_
            refine AllReadyIn.cons rfl (fun K' hK => ?_) AllReadyIn.nil
            go_simp
            refine hK _ _ ?_
            clear hK K'
            refine wpAnyIn_ready (rs := [4]) (by kernel_rfl) (by simp) ?_
            refine AllReadyIn.cons rfl (fun K' hK => ?_) AllReadyIn.nil
            as_aux_lemma =>
              go_simp
              refine ⟨trivial, ?_⟩
              rw [HDo.out.1, Oper.uponIn_enter]
              refine ⟨fun _ => by decide, (CallsIn.inRound l2 (CallsIn.inRound l (callsIn_wide.2 (HAL.out _ (by simpa using (Below.refl W'.heap.size W').drew))))).mono ?_⟩
              rintro e w5 ⟨r, rfl, hr, hr2, hb5⟩
              have hb5' : Below W'.heap.size W' w5 := ((Below.refl W'.heap.size W').drew).trans hb5
              have HB5 := Lib.hid hb5'
              have hcS5 := (hb5'.cell (p := ⟨S, 0, none⟩) HVL.out).trans hcS
              have HV5 := Lib.hid (hv5 w5 hb5')
              have hn5 : ¬ w5.heap.size = S := by have := hb5'.size; have := HVL.out; omega
              have hn5' : ¬ S = w5.heap.size := by omega
              have hl5 : S < w5.heap.size := by have := hb5'.size; have := HVL.out; omega
              have HS5 := Lib.hid (Nat.le_trans hSW hb5'.size)
              clear hb5 hb5'
              refine hK _ _ ?_
              clear hK K'
              refine wpAnyIn_ready (rs := [5]) (by kernel_rfl) (by simp) ?_
              refine AllReadyIn.cons rfl (fun K' hK => ?_) AllReadyIn.nil
              go_simp
              refine hK _ _ ?_
              clear hK K'
              refine wpAnyIn_ready (rs := [6]) (by kernel_rfl) (by simp) ?_
              refine AllReadyIn.cons rfl (fun K' hK => ?_) AllReadyIn.nil
              refine stepIn_append_ownT _ rfl (.tmp 27) (.tmp 32) 22 rfl S 46 i0 (.float .f32 0) 1 4 Try.underlying22 HI.out HZ0.out HZ1.out HZ2.out rfl (by decide) v rs.length (rs.map (Value.float .f32)) rfl (HV5.out.2.alloc _) ⟨w5.heap.size, 0, none⟩ 1 1 [.float .f32 r] rfl rfl (cell_one_new _ _ _) (by simp [Value.oneCell']) (by unfold maxLen; omega) (by omega) (by have := HS5.out; simp; omega) ?_
              intro v' w1 hown' hgrow _
              obtain ⟨g', cap', rfl⟩ := ownsRow_succ hown'
              have hv1 : Boxed w1 S 22 v := (HV5.out.1.alloc _).kept hgrow (HV5.out.1.not_row (by decide) HV5.out.2)
              have hc1 := hv1.cell
              have hf1 := hv1.frozen
              refine hK _ _ ?_
              clear hK K'
              refine wpAnyIn_ready (rs := [7]) (by kernel_rfl) (by simp) ?_
              refine AllReadyIn.cons rfl (fun K' hK => ?_) AllReadyIn.nil
              go_simp
              refine hK _ _ ?_
              clear hK K'
              refine wpAnyIn_done (by kernel_rfl) ?_ _
              gi_wp2_with fail
              obtain ⟨e1, e2, e3, e4, e5⟩ := mul_end W4.heap.size W3.heap.size hv hrow hc hlt hB hSW hx1' hx2' hX5 hT5 hT6 hTS (by omega) HB5.out hr hr2 hown' hgrow
              exact ⟨e1, e2, by rw [innF_snoc, ← List.append_assoc]; exact e3, e4, hKF.trans e5⟩
          refine AllReadyIn.cons rfl (fun K' hK => ?_) AllReadyIn.nil
          go_simp
          refine hK _ _ ?_
          clear hK K'
          refine wpAnyIn_ready (rs := [2]) (by kernel_rfl) (by simp) ?_
          refine AllReadyIn.cons rfl (fun K' hK => ?_) AllReadyIn.nil
          go_simp
          refine hK _ _ ?_
          clear hK K'
          refine wpAnyIn_ready (rs := [4]) (by kernel_rfl) (by simp) ?_
          refine AllReadyIn.cons rfl (fun K' hK => ?_) AllReadyIn.nil
          as_aux_lemma =>
            go_simp
            refine ⟨trivial, ?_⟩
            rw [HDo.out.1, Oper.uponIn_enter]
            refine ⟨fun _ => by decide, (CallsIn.inRound l2 (CallsIn.inRound l (callsIn_wide.2 (HAL.out _ (by simpa using (Below.refl W'.heap.size W').drew))))).mono ?_⟩
            rintro e w5 ⟨r, rfl, hr, hr2, hb5⟩
            have hb5' : Below W'.heap.size W' w5 := ((Below.refl W'.heap.size W').drew).trans hb5
            have HB5 := Lib.hid hb5'
            have hcS5 := (hb5'.cell (p := ⟨S, 0, none⟩) HVL.out).trans hcS
            have HV5 := Lib.hid (hv5 w5 hb5')
            have hn5 : ¬ w5.heap.size = S := by have := hb5'.size; have := HVL.out; omega
            have hn5' : ¬ S = w5.heap.size := by omega
            have hl5 : S < w5.heap.size := by have := hb5'.size; have := HVL.out; omega
            have HS5 := Lib.hid (Nat.le_trans hSW hb5'.size)
            clear hb5 hb5'
            refine hK _ _ ?_
            clear hK K'
            refine wpAnyIn_ready (rs := [5]) (by kernel_rfl) (by simp) ?_
            refine AllReadyIn.cons rfl (fun K' hK => ?_) AllReadyIn.nil
            go_simp
            refine hK _ _ ?_
            clear hK K'
            refine wpAnyIn_ready (rs := [6]) (by kernel_rfl) (by simp) ?_
            refine AllReadyIn.cons rfl (fun K' hK => ?_) AllReadyIn.nil
            refine stepIn_append_ownT _ rfl (.tmp 27) (.tmp 32) 22 rfl S 46 i0 (.float .f32 0) 1 4 Try.underlying22 HI.out HZ0.out HZ1.out HZ2.out rfl (by decide) v rs.length (rs.map (Value.float .f32)) rfl (HV5.out.2.alloc _) ⟨w5.heap.size, 0, none⟩ 1 1 [.float .f32 r] rfl rfl (cell_one_new _ _ _) (by simp [Value.oneCell']) (by unfold maxLen; omega) (by omega) (by have := HS5.out; simp; omega) ?_
            intro v' w1 hown' hgrow _
            obtain ⟨g', cap', rfl⟩ := ownsRow_succ hown'
            have hv1 : Boxed w1 S 22 v := (HV5.out.1.alloc _).kept hgrow (HV5.out.1.not_row (by decide) HV5.out.2)
            have hc1 := hv1.cell
            have hf1 := hv1.frozen
            refine hK _ _ ?_
            clear hK K'
            refine wpAnyIn_ready (rs := [7]) (by kernel_rfl) (by simp) ?_
            refine AllReadyIn.cons rfl (fun K' hK => ?_) AllReadyIn.nil
            go_simp
            refine hK _ _ ?_
            clear hK K'
            refine wpAnyIn_done (by kernel_rfl) ?_ _
            gi_wp2_with fail
            obtain ⟨e1, e2, e3, e4, e5⟩ := mul_end W4.heap.size W3.heap.size hv hrow hc hlt hB hSW hx1' hx2' hX5 hT5 hT6 hTS (by omega) HB5.out hr hr2 hown' hgrow
            exact ⟨e1, e2, by rw [innF_snoc, ← List.append_assoc]; exact e3, e4, hKF.trans e5⟩
        refine AllReadyIn.cons rfl (fun K' hK => ?_) ?_
        · skip
          go_simp
          refine hK _ _ ?_
          clear hK K'
          refine wpAnyIn_ready (rs := [0, 3]) (by kernel_rfl) (by simp) ?_
          refine AllReadyIn.cons rfl (fun K' hK => ?_) ?_
          · skip
            go_simp
            refine hK _ _ ?_
            clear hK K'
            refine wpAnyIn_ready (rs := [3]) (by kernel_rfl) (by simp) ?_
            refine AllReadyIn.cons rfl (fun K' hK => ?_) AllReadyIn.nil
            go_simp
            refine hK _ _ ?_
            clear hK K'
            refine wpAnyIn_ready (rs := [4]) (by kernel_rfl) (by simp) ?_
            refine AllReadyIn.cons rfl (fun K' hK => ?_) AllReadyIn.nil
            as_aux_lemma =>
              go_simp
              refine ⟨trivial, ?_⟩
              rw [HDo.out.1, Oper.uponIn_enter]
              refine ⟨fun _ => by decide, (CallsIn.inRound l2 (CallsIn.inRound l (callsIn_wide.2 (HAL.out _ (by simpa using (Below.refl W'.heap.size W').drew))))).mono ?_⟩
              rintro e w5 ⟨r, rfl, hr, hr2, hb5⟩
              have hb5' : Below W'.heap.size W' w5 := ((Below.refl W'.heap.size W').drew).trans hb5
              have HB5 := Lib.hid hb5'
              have hcS5 := (hb5'.cell (p := ⟨S, 0, none⟩) HVL.out).trans hcS
              have HV5 := Lib.hid (hv5 w5 hb5')
              have hn5 : ¬ w5.heap.size = S := by have := hb5'.size; have := HVL.out; omega
              have hn5' : ¬ S = w5.heap.size := by omega
              have hl5 : S < w5.heap.size := by have := hb5'.size; have := HVL.out; omega
              have HS5 := Lib.hid (Nat.le_trans hSW hb5'.size)
              clear hb5 hb5'
              refine hK _ _ ?_
              clear hK K'
              refine wpAnyIn_ready (rs := [5]) (by kernel_rfl) (by simp) ?_
              refine AllReadyIn.cons rfl (fun K' hK => ?_) AllReadyIn.nil
              go_simp
              refine hK _ _ ?_
              clear hK K'
              refine wpAnyIn_ready (rs := [6]) (by kernel_rfl) (by simp) ?_
              refine AllReadyIn.cons rfl (fun K' hK => ?_) AllReadyIn.nil
              refine stepIn_append_ownT _ rfl (.tmp 27) (.tmp 32) 22 rfl S 46 i0 (.float .f32 0) 1 4 Try.underlying22 HI.out HZ0.out HZ1.out HZ2.out rfl (by decide) v rs.length (rs.map (Value.float .f32)) rfl (HV5.out.2.alloc _) ⟨w5.heap.size, 0, none⟩ 1 1 [.float .f32 r] rfl rfl (cell_one_new _ _ _) (by simp [Value.oneCell']) (by unfold maxLen; omega) (by omega) (by have := HS5.out; simp; omega) ?_
              intro v' w1 hown' hgrow _
              obtain ⟨g', cap', rfl⟩ := ownsRow_succ hown'
              have hv1 : Boxed w1 S 22 v := (HV5.out.1.alloc _).kept hgrow (HV5.out.1.not_row (by decide) HV5.out.2)
              have hc1 := hv1.cell
              have hf1 := hv1.frozen
              refine hK _ _ ?_
              clear hK K'
              refine wpAnyIn_ready (rs := [7]) (by kernel_rfl) (by simp) ?_
              refine AllReadyIn.cons rfl (fun K' hK => ?_) AllReadyIn.nil
              go_simp
              refine hK _ _ ?_
              clear hK K'
              refine wpAnyIn_done (by kernel_rfl) ?_ _
              gi_wp2_with fail
              obtain ⟨e1, e2, e3, e4, e5⟩ := mul_end W4.heap.size W3.heap.size hv hrow hc hlt hB hSW hx1' hx2' hX5 hT5 hT6 hTS (by omega) HB5.out hr hr2 hown' hgrow
              exact ⟨e1, e2, by rw [innF_snoc, ← List.append_assoc]; exact e3, e4, hKF.trans e5⟩
          refine AllReadyIn.cons rfl (fun K' hK => ?_) AllReadyIn.nil
          go_simp
          refine hK _ _ ?_
          clear hK K'
          refine wpAnyIn_ready (rs := [0, 4]) (by kernel_rfl) (by simp) ?_
          refine AllReadyIn.cons rfl (fun K' hK => ?_) ?_
          · skip
            go_simp
            refine hK _ _ ?_
            clear hK K'
            refine wpAnyIn_ready (rs := [4]) (by kernel_rfl) (by simp) ?_
            refine AllReadyIn.cons rfl (fun K' hK => ?_) AllReadyIn.nil
            as_aux_lemma =>
              go_simp
              refine ⟨trivial, ?_⟩
              rw [HDo.out.1, Oper.uponIn_enter]
              refine ⟨fun _ => by decide, (CallsIn.inRound l2 (CallsIn.inRound l (callsIn_wide.2 (HAL.out _ (by simpa using (Below.refl W'.heap.size W').drew))))).mono ?_⟩
              rintro e w5 ⟨r, rfl, hr, hr2, hb5⟩
              have hb5' : Below W'.heap.size W' w5 := ((Below.refl W'.heap.size W').drew).trans hb5
              have HB5 := Lib.hid hb5'
              have hcS5 := (hb5'.cell (p := ⟨S, 0, none⟩) HVL.out).trans hcS
              have HV5 := Lib.hid (hv5 w5 hb5')
              have hn5 : ¬ w5.heap.size = S := by have := hb5'.size; have := HVL.out; omega
              have hn5' : ¬ S = w5.heap.size := by omega
              have hl5 : S < w5.heap.size := by have := hb5'.size; have := HVL.out; omega
              have HS5 := Lib.hid (Nat.le_trans hSW hb5'.size)
              clear hb5 hb5'
              refine hK _ _ ?_
              clear hK K'
              refine wpAnyIn_ready (rs := [5]) (by kernel_rfl) (by simp) ?_
              refine AllReadyIn.cons rfl (fun K' hK => ?_) AllReadyIn.nil
              go_simp
              refine hK _ _ ?_
              clear hK K'
              refine wpAnyIn_ready (rs := [6]) (by kernel_rfl) (by simp) ?_
              refine AllReadyIn.cons rfl (fun K' hK => ?_) AllReadyIn.nil
              refine stepIn_append_ownT _ rfl (.tmp 27) (.tmp 32) 22 rfl S 46 i0 (.float .f32 0) 1 4 Try.underlying22 HI.out HZ0.out HZ1.out HZ2.out rfl (by decide) v rs.length (rs.map (Value.float .f32)) rfl (HV5.out.2.alloc _) ⟨w5.heap.size, 0, none⟩ 1 1 [.float .f32 r] rfl rfl (cell_one_new _ _ _) (by simp [Value.oneCell']) (by unfold maxLen; omega) (by omega) (by have := HS5.out; simp; omega) ?_
              intro v' w1 hown' hgrow _
              obtain ⟨g', cap', rfl⟩ := ownsRow_succ hown'
              have hv1 : Boxed w1 S 22 v := (HV5.out.1.alloc _).kept hgrow (HV5.out.1.not_row (by decide) HV5.out.2)
              have hc1 := hv1.cell
              have hf1 := hv1.frozen
              refine hK _ _ ?_
              clear hK K'
              refine wpAnyIn_ready (rs := [7]) (by kernel_rfl) (by simp) ?_
              refine AllReadyIn.cons rfl (fun K' hK => ?_) AllReadyIn.nil
              go_simp
              refine hK _ _ ?_
              clear hK K'
              refine wpAnyIn_done (by kernel_rfl) ?_ _
              gi_wp2_with fail
              obtain ⟨e1, e2, e3, e4, e5⟩ := mul_end W4.heap.size W3.heap.size hv hrow hc hlt hB hSW hx1' hx2' hX5 hT5 hT6 hTS (by omega) HB5.out hr hr2 hown' hgrow
              exact ⟨e1, e2, by rw [innF_snoc, ← List.append_assoc]; exact e3, e4, hKF.trans e5⟩
          refine AllReadyIn.cons rfl (fun K' hK => ?_) AllReadyIn.nil
          as_aux_lemma =>
            go_simp
            refine ⟨trivial, ?_⟩
            rw [HDo.out.1, Oper.uponIn_enter]
            refine ⟨fun _ => by decide, (CallsIn.inRound l2 (CallsIn.inRound l (callsIn_wide.2 (HAL.out _ (by simpa using (Below.refl W'.heap.size W').drew))))).mono ?_⟩
            rintro e w5 ⟨r, rfl, hr, hr2, hb5⟩
            have hb5' : Below W'.heap.size W' w5 := ((Below.refl W'.heap.size W').drew).trans hb5
            have HB5 := Lib.hid hb5'
            have hcS5 := (hb5'.cell (p := ⟨S, 0, none⟩) HVL.out).trans hcS
            have HV5 := Lib.hid (hv5 w5 hb5')
            have hn5 : ¬ w5.heap.size = S := by have := hb5'.size; have := HVL.out; omega
            have hn5' : ¬ S = w5.heap.size := by omega
            have hl5 : S < w5.heap.size := by have := hb5'.size; have := HVL.out; omega
            have HS5 := Lib.hid (Nat.le_trans hSW hb5'.size)
            clear hb5 hb5'
            refine hK _ _ ?_
            clear hK K'
            refine wpAnyIn_ready (rs := [0, 5]) (by kernel_rfl) (by simp) ?_
            refine AllReadyIn.cons rfl (fun K' hK => ?_) ?_
            · skip
              go_simp
              refine hK _ _ ?_
              clear hK K'
              refine wpAnyIn_ready (rs := [5]) (by kernel_rfl) (by simp) ?_
              refine AllReadyIn.cons rfl (fun K' hK => ?_) AllReadyIn.nil
              go_simp
              refine hK _ _ ?_
              clear hK K'
              refine wpAnyIn_ready (rs := [6]) (by kernel_rfl) (by simp) ?_
              refine AllReadyIn.cons rfl (fun K' hK => ?_) AllReadyIn.nil
              refine stepIn_append_ownT _ rfl (.tmp 27) (.tmp 32) 22 rfl S 46 i0 (.float .f32 0) 1 4 Try.underlying22 HI.out HZ0.out HZ1.out HZ2.out rfl (by decide) v rs.length (rs.map (Value.float .f32)) rfl (HV5.out.2.alloc _) ⟨w5.heap.size, 0, none⟩ 1 1 [.float .f32 r] rfl rfl (cell_one_new _ _ _) (by simp [Value.oneCell']) (by unfold maxLen; omega) (by omega) (by have := HS5.out; simp; omega) ?_
              intro v' w1 hown' hgrow _
              obtain ⟨g', cap', rfl⟩ := ownsRow_succ hown'
              have hv1 : Boxed w1 S 22 v := (HV5.out.1.alloc _).kept hgrow (HV5.out.1.not_row (by decide) HV5.out.2)
              have hc1 := hv1.cell
              have hf1 := hv1.frozen
              refine hK _ _ ?_
              clear hK K'
              refine wpAnyIn_ready (rs := [7]) (by kernel_rfl) (by simp) ?_
              refine AllReadyIn.cons rfl (fun K' hK => ?_) AllReadyIn.nil
              go_simp
              refine hK _ _ ?_
              clear hK K'
              refine wpAnyIn_done (by kernel_rfl) ?_ _
              gi_wp2_with fail
              obtain ⟨e1, e2, e3, e4, e5⟩ := mul_end W4.heap.size W3.heap.size hv hrow hc hlt hB hSW hx1' hx2' hX5 hT5 hT6 hTS (by omega) HB5.out hr hr2 hown' hgrow
              exact ⟨e1, e2, by rw [innF_snoc, ← List.append_assoc]; exact e3, e4, hKF.trans e5⟩
            refine AllReadyIn.cons rfl (fun K' hK => ?_) AllReadyIn.nil
            go_simp
            refine hK _ _ ?_
            clear hK K'
            refine wpAnyIn_ready (rs := [0]) (by kernel_rfl) (by simp) ?_
            refine AllReadyIn.cons rfl (fun K' hK => ?_) AllReadyIn.nil
            go_simp
            refine hK _ _ ?_
            clear hK K'
            refine wpAnyIn_ready (rs := [6]) (by kernel_rfl) (by simp) ?_
            refine AllReadyIn.cons rfl (fun K' hK => ?_) AllReadyIn.nil
            refine stepIn_append_ownT _ rfl (.tmp 27) (.tmp 32) 22 rfl S 46 i0 (.float .f32 0) 1 4 Try.underlying22 HI.out HZ0.out HZ1.out HZ2.out rfl (by decide) v rs.length (rs.map (Value.float .f32)) rfl (HV5.out.2.alloc _) ⟨w5.heap.size, 0, none⟩ 1 1 [.float .f32 r] rfl rfl (cell_one_new _ _ _) (by simp [Value.oneCell']) (by unfold maxLen; omega) (by omega) (by have := HS5.out; simp; omega) ?_
            intro v' w1 hown' hgrow _
            obtain ⟨g', cap', rfl⟩ := ownsRow_succ hown'
            have hv1 : Boxed w1 S 22 v := (HV5.out.1.alloc _).kept hgrow (HV5.out.1.not_row (by decide) HV5.out.2)
            have hc1 := hv1.cell
            have hf1 := hv1.frozen
            refine hK _ _ ?_
            clear hK K'
            refine wpAnyIn_ready (rs := [7]) (by kernel_rfl) (by simp) ?_
            refine AllReadyIn.cons rfl (fun K' hK => ?_) AllReadyIn.nil
            go_simp
            refine hK _ _ ?_
            clear hK K'
            refine wpAnyIn_done (by kernel_rfl) ?_ _
            gi_wp2_with fail
            obtain ⟨e1, e2, e3, e4, e5⟩ := mul_end W4.heap.size W3.heap.size hv hrow hc hlt hB hSW hx1' hx2' hX5 hT5 hT6 hTS (by omega) HB5.out hr hr2 hown' hgrow
            exact ⟨e1, e2, by rw [innF_snoc, ← List.append_assoc]; exact e3, e4, hKF.trans e5⟩
        refine AllReadyIn.cons rfl (fun K' hK => ?_) AllReadyIn.nil
        go_simp
        refine hK _ _ ?_
        clear hK K'
        refine wpAnyIn_ready (rs := [0, 2]) (by kernel_rfl) (by simp) ?_
        refine AllReadyIn.cons rfl (fun K' hK => ?_) ?_
        · skip
          go_simp
          refine hK _ _ ?_
          clear hK K'
          refine wpAnyIn_ready (rs := [2]) (by kernel_rfl) (by simp) ?_
          refine AllReadyIn.cons rfl (fun K' hK => ?_) AllReadyIn.nil
          go_simp
          refine hK _ _ ?_
          clear hK K'
          refine wpAnyIn_ready (rs := [4]) (by kernel_rfl) (by simp) ?_
          refine AllReadyIn.cons rfl (fun K' hK => ?_) AllReadyIn.nil
          as_aux_lemma =>
            go_simp
            refine ⟨trivial, ?_⟩
            rw [HDo.out.1, Oper.uponIn_enter]
            refine ⟨fun _ => by decide, (CallsIn.inRound l2 (CallsIn.inRound l (callsIn_wide.2 (HAL.out _ (by simpa using (Below.refl W'.heap.size W').drew))))).mono ?_⟩
            rintro e w5 ⟨r, rfl, hr, hr2, hb5⟩
            have hb5' : Below W'.heap.size W' w5 := ((Below.refl W'.heap.size W').drew).trans hb5
            have HB5 := Lib.hid hb5'
            have hcS5 := (hb5'.cell (p := ⟨S, 0, none⟩) HVL.out).trans hcS
            have HV5 := Lib.hid (hv5 w5 hb5')
            have hn5 : ¬ w5.heap.size = S := by have := hb5'.size; have := HVL.out; omega
            have hn5' : ¬ S = w5.heap.size := by omega
            have hl5 : S < w5.heap.size := by have := hb5'.size; have := HVL.out; omega
            have HS5 := Lib.hid (Nat.le_trans hSW hb5'.size)
            clear hb5 hb5'
            refine hK _ _ ?_
            clear hK K'
            refine wpAnyIn_ready (rs := [5]) (by kernel_rfl) (by simp) ?_
            refine AllReadyIn.cons rfl (fun K' hK => ?_) AllReadyIn.nil
            go_simp
            refine hK _ _ ?_
            clear hK K'
            refine wpAnyIn_ready (rs := [6]) (by kernel_rfl) (by simp) ?_
            refine AllReadyIn.cons rfl (fun K' hK => ?_) AllReadyIn.nil
            refine stepIn_append_ownT _ rfl (.tmp 27) (.tmp 32) 22 rfl S 46 i0 (.float .f32 0) 1 4 Try.underlying22 HI.out HZ0.out HZ1.out HZ2.out rfl (by decide) v rs.length (rs.map (Value.float .f32)) rfl (HV5.out.2.alloc _) ⟨w5.heap.size, 0, none⟩ 1 1 [.float .f32 r] rfl rfl (cell_one_new _ _ _) (by simp [Value.oneCell']) (by unfold maxLen; omega) (by omega) (by have := HS5.out; simp; omega) ?_
            intro v' w1 hown' hgrow _
            obtain ⟨g', cap', rfl⟩ := ownsRow_succ hown'
            have hv1 : Boxed w1 S 22 v := (HV5.out.1.alloc _).kept hgrow (HV5.out.1.not_row (by decide) HV5.out.2)
            have hc1 := hv1.cell
            have hf1 := hv1.frozen
            refine hK _ _ ?_
            clear hK K'
            refine wpAnyIn_ready (rs := [7]) (by kernel_rfl) (by simp) ?_
            refine AllReadyIn.cons rfl (fun K' hK => ?_) AllReadyIn.nil
            go_simp
            refine hK _ _ ?_
            clear hK K'
            refine wpAnyIn_done (by kernel_rfl) ?_ _
            gi_wp2_with fail
            obtain ⟨e1, e2, e3, e4, e5⟩ := mul_end W4.heap.size W3.heap.size hv hrow hc hlt hB hSW hx1' hx2' hX5 hT5 hT6 hTS (by omega) HB5.out hr hr2 hown' hgrow
            exact ⟨e1, e2, by rw [innF_snoc, ← List.append_assoc]; exact e3, e4, hKF.trans e5⟩
        refine AllReadyIn.cons rfl (fun K' hK => ?_) AllReadyIn.nil
        go_simp
        refine hK _ _ ?_
        clear hK K'
        refine wpAnyIn_ready (rs := [0, 4]) (by kernel_rfl) (by simp) ?_
        refine AllReadyIn.cons rfl (fun K' hK => ?_) ?_
        · skip
          go_simp
          refine hK _ _ ?_
          clear hK K'
          refine wpAnyIn_ready (rs := [4]) (by kernel_rfl) (by simp) ?_
          refine AllReadyIn.cons rfl (fun K' hK => ?_) AllReadyIn.nil
          as_aux_lemma =>
            go_simp
            refine ⟨trivial, ?_⟩
            rw [HDo.out.1, Oper.uponIn_enter]
            refine ⟨fun _ => by decide, (CallsIn.inRound l2 (CallsIn.inRound l (callsIn_wide.2 (HAL.out _ (by simpa using (Below.refl W'.heap.size W').drew))))).mono ?_⟩
            rintro e w5 ⟨r, rfl, hr, hr2, hb5⟩
            have hb5' : Below W'.heap.size W' w5 := ((Below.refl W'.heap.size W').drew).trans hb5
            have HB5 := Lib.hid hb5'
            have hcS5 := (hb5'.cell (p := ⟨S, 0, none⟩) HVL.out).trans hcS
            have HV5 := Lib.hid (hv5 w5 hb5')
            have hn5 : ¬ w5.heap.size = S := by have := hb5'.size; have := HVL.out; omega
            have hn5' : ¬ S = w5.heap.size := by omega
            have hl5 : S < w5.heap.size := by have := hb5'.size; have := HVL.out; omega
            have HS5 := Lib.hid (Nat.le_trans hSW hb5'.size)
            clear hb5 hb5'
            refine hK _ _ ?_
            clear hK K'
            refine wpAnyIn_ready (rs := [5]) (by kernel_rfl) (by simp) ?_
            refine AllReadyIn.cons rfl (fun K' hK => ?_) AllReadyIn.nil
            go_simp
            refine hK _ _ ?_
            clear hK K'
            refine wpAnyIn_ready (rs := [6]) (by kernel_rfl) (by simp) ?_
            refine AllReadyIn.cons rfl (fun K' hK => ?_) AllReadyIn.nil
            refine stepIn_append_ownT _ rfl (.tmp 27) (.tmp 32) 22 rfl S 46 i0 (.float .f32 0) 1 4 Try.underlying22 HI.out HZ0.out HZ1.out HZ2.out rfl (by decide) v rs.length (rs.map (Value.float .f32)) rfl (HV5.out.2.alloc _) ⟨w5.heap.size, 0, none⟩ 1 1 [.float .f32 r] rfl rfl (cell_one_new _ _ _) (by simp [Value.oneCell']) (by unfold maxLen; omega) (by omega) (by have := HS5.out; simp; omega) ?_
            intro v' w1 hown' hgrow _
            obtain ⟨g', cap', rfl⟩ := ownsRow_succ hown'
            have hv1 : Boxed w1 S 22 v := (HV5.out.1.alloc _).kept hgrow (HV5.out.1.not_row (by decide) HV5.out.2)
            have hc1 := hv1.cell
            have hf1 := hv1.frozen
            refine hK _ _ ?_
            clear hK K'
            refine wpAnyIn_ready (rs := [7]) (by kernel_rfl) (by simp) ?_
            refine AllReadyIn.cons rfl (fun K' hK => ?_) AllReadyIn.nil
            go_simp
            refine hK _ _ ?_
            clear hK K'
            refine wpAnyIn_done (by kernel_rfl) ?_ _
            gi_wp2_with fail
            obtain ⟨e1, e2, e3, e4, e5⟩ := mul_end W4.heap.size W3.heap.size hv hrow hc hlt hB hSW hx1' hx2' hX5 hT5 hT6 hTS (by omega) HB5.out hr hr2 hown' hgrow
            exact ⟨e1, e2, by rw [innF_snoc, ← List.append_assoc]; exact e3, e4, hKF.trans e5⟩
        refine AllReadyIn.cons rfl (fun K' hK => ?_) AllReadyIn.nil
        as_aux_lemma =>
          go_simp
          refine ⟨trivial, ?_⟩
          rw [HDo.out.1, Oper.uponIn_enter]
          refine ⟨fun _ => by decide, (CallsIn.inRound l2 (CallsIn.inRound l (callsIn_wide.2 (HAL.out _ (by simpa using (Below.refl W'.heap.size W').drew))))).mono ?_⟩
          rintro e w5 ⟨r, rfl, hr, hr2, hb5⟩
          have hb5' : Below W'.heap.size W' w5 := ((Below.refl W'.heap.size W').drew).trans hb5
          have HB5 := Lib.hid hb5'
          have hcS5 := (hb5'.cell (p := ⟨S, 0, none⟩) HVL.out).trans hcS
          have HV5 := Lib.hid (hv5 w5 hb5')
          have hn5 : ¬ w5.heap.size = S := by have := hb5'.size; have := HVL.out; omega
          have hn5' : ¬ S = w5.heap.size := by omega
          have hl5 : S < w5.heap.size := by have := hb5'.size; have := HVL.out; omega
          have HS5 := Lib.hid (Nat.le_trans hSW hb5'.size)
          clear hb5 hb5'
          refine hK _ _ ?_
          clear hK K'
          refine wpAnyIn_ready (rs := [0, 5]) (by kernel_rfl) (by simp) ?_
          refine AllReadyIn.cons rfl (fun K' hK => ?_) ?_
          · skip
            go_simp
            refine hK _ _ ?_
            clear hK K'
            refine wpAnyIn_ready (rs := [5]) (by kernel_rfl) (by simp) ?_
            refine AllReadyIn.cons rfl (fun K' hK => ?_) AllReadyIn.nil
            go_simp
            refine hK _ _ ?_
            clear hK K'
            refine wpAnyIn_ready (rs := [6]) (by kernel_rfl) (by simp) ?_
            refine AllReadyIn.cons rfl (fun K' hK => ?_) AllReadyIn.nil
            refine stepIn_append_ownT _ rfl (.tmp 27) (.tmp 32) 22 rfl S 46 i0 (.float .f32 0) 1 4 Try.underlying22 HI.out HZ0.out HZ1.out HZ2.out rfl (by decide) v rs.length (rs.map (Value.float .f32)) rfl (HV5.out.2.alloc _) ⟨w5.heap.size, 0, none⟩ 1 1 [.float .f32 r] rfl rfl (cell_one_new _ _ _) (by simp [Value.oneCell']) (by unfold maxLen; omega) (by omega) (by have := HS5.out; simp; omega) ?_
            intro v' w1 hown' hgrow _
            obtain ⟨g', cap', rfl⟩ := ownsRow_succ hown'
            have hv1 : Boxed w1 S 22 v := (HV5.out.1.alloc _).kept hgrow (HV5.out.1.not_row (by decide) HV5.out.2)
            have hc1 := hv1.cell
            have hf1 := hv1.frozen
            refine hK _ _ ?_
            clear hK K'
            refine wpAnyIn_ready (rs := [7]) (by kernel_rfl) (by simp) ?_
            refine AllReadyIn.cons rfl (fun K' hK => ?_) AllReadyIn.nil
            go_simp
            refine hK _ _ ?_
            clear hK K'
            refine wpAnyIn_done (by kernel_rfl) ?_ _
            gi_wp2_with fail
            obtain ⟨e1, e2, e3, e4, e5⟩ := mul_end W4.heap.size W3.heap.size hv hrow hc hlt hB hSW hx1' hx2' hX5 hT5 hT6 hTS (by omega) HB5.out hr hr2 hown' hgrow
            exact ⟨e1, e2, by rw [innF_snoc, ← List.append_assoc]; exact e3, e4, hKF.trans e5⟩
          refine AllReadyIn.cons rfl (fun K' hK => ?_) AllReadyIn.nil
          go_simp
          refine hK _ _ ?_
          clear hK K'
          refine wpAnyIn_ready (rs := [0]) (by kernel_rfl) (by simp) ?_
          refine AllReadyIn.cons rfl (fun K' hK => ?_) AllReadyIn.nil
          go_simp
          refine hK _ _ ?_
          clear hK K'
          refine wpAnyIn_ready (rs := [6]) (by kernel_rfl) (by simp) ?_
          refine AllReadyIn.cons rfl (fun K' hK => ?_) AllReadyIn.nil
          refine stepIn_append_ownT _ rfl (.tmp 27) (.tmp 32) 22 rfl S 46 i0 (.float .f32 0) 1 4 Try.underlying22 HI.out HZ0.out HZ1.out HZ2.out rfl (by decide) v rs.length (rs.map (Value.float .f32)) rfl (HV5.out.2.alloc _) ⟨w5.heap.size, 0, none⟩ 1 1 [.float .f32 r] rfl rfl (cell_one_new _ _ _) (by simp [Value.oneCell']) (by unfold maxLen; omega) (by omega) (by have := HS5.out; simp; omega) ?_
          intro v' w1 hown' hgrow _
          obtain ⟨g', cap', rfl⟩ := ownsRow_succ hown'
          have hv1 : Boxed w1 S 22 v := (HV5.out.1.alloc _).kept hgrow (HV5.out.1.not_row (by decide) HV5.out.2)
          have hc1 := hv1.cell
          have hf1 := hv1.frozen
          refine hK _ _ ?_
          clear hK K'
          refine wpAnyIn_ready (rs := [7]) (by kernel_rfl) (by simp) ?_
          refine AllReadyIn.cons rfl (fun K' hK => ?_) AllReadyIn.nil
          go_simp
          refine hK _ _ ?_
          clear hK K'
          refine wpAnyIn_done (by kernel_rfl) ?_ _
          gi_wp2_with fail
          obtain ⟨e1, e2, e3, e4, e5⟩ := mul_end W4.heap.size W3.heap.size hv hrow hc hlt hB hSW hx1' hx2' hX5 hT5 hT6 hTS (by omega) HB5.out hr hr2 hown' hgrow
          exact ⟨e1, e2, by rw [innF_snoc, ← List.append_assoc]; exact e3, e4, hKF.trans e5⟩
      refine AllReadyIn.cons rfl (fun K' hK => ?_) ?_
      · skip
        go_simp
        refine hK _ _ ?_
        clear hK K'
        refine wpAnyIn_ready (rs := [0, 1, 3]) (by kernel_rfl) (by simp) ?_
        refine AllReadyIn.cons rfl (fun K' hK => ?_) ?_
        · skip
          go_simp
          refine hK _ _ ?_
          clear hK K'
          refine wpAnyIn_ready (rs := [1, 3]) (by kernel_rfl) (by simp) ?_
          refine AllReadyIn.cons rfl (fun K' hK => ?_) ?_
          · skip
            go_simp
            refine hK _ _ ?_
            clear hK K'
            refine wpAnyIn_ready (rs := [3]) (by kernel_rfl) (by simp) ?_
            refine AllReadyIn.cons rfl (fun K' hK => ?_) AllReadyIn.nil
            go_simp
            refine hK _ _ ?_
            clear hK K'
            refine wpAnyIn_ready (rs := [4]) (by kernel_rfl) (by simp) ?_
            refine AllReadyIn.cons rfl (fun K' hK => ?_) AllReadyIn.nil
            as_aux_lemma =>
              go_simp
              refine ⟨trivial, ?_⟩
              rw [HDo.out.1, Oper.uponIn_enter]
              refine ⟨fun _ => by decide, (CallsIn.inRound l2 (CallsIn.inRound l (callsIn_wide.2 (HAL.out _ (by simpa using (Below.refl W'.heap.size W').drew))))).mono ?_⟩
              rintro e w5 ⟨r, rfl, hr, hr2, hb5⟩
              have hb5' : Below W'.heap.size W' w5 := ((Below.refl W'.heap.size W').drew).trans hb5
              have HB5 := Lib.hid hb5'
              have hcS5 := (hb5'.cell (p := ⟨S, 0, none⟩) HVL.out).trans hcS
              have HV5 := Lib.hid (hv5 w5 hb5')
              have hn5 : ¬ w5.heap.size = S := by have := hb5'.size; have := HVL.out; omega
              have hn5' : ¬ S = w5.heap.size := by omega
              have hl5 : S < w5.heap.size := by have := hb5'.size; have := HVL.out; omega
              have HS5 := Lib.hid (Nat.le_trans hSW hb5'.size)
              clear hb5 hb5'
              refine hK _ _ ?_
              clear hK K'
              refine wpAnyIn_ready (rs := [5]) (by kernel_rfl) (by simp) ?_
              refine AllReadyIn.cons rfl (fun K' hK => ?_) AllReadyIn.nil
              go_simp
              refine hK _ _ ?_
              clear hK K'
              refine wpAnyIn_ready (rs := [6]) (by kernel_rfl) (by simp) ?_
              refine AllReadyIn.cons rfl (fun K' hK => ?_) AllReadyIn.nil
              refine stepIn_append_ownT _ rfl (.tmp 27) (.tmp 32) 22 rfl S 46 i0 (.float .f32 0) 1 4 Try.underlying22 HI.out HZ0.out HZ1.out HZ2.out rfl (by decide) v rs.length (rs.map (Value.float .f32)) rfl (HV5.out.2.alloc _) ⟨w5.heap.size, 0, none⟩ 1 1 [.float .f32 r] rfl rfl (cell_one_new _ _ _) (by simp [Value.oneCell']) (by unfold maxLen; omega) (by omega) (by have := HS5.out; simp; omega) ?_
              intro v' w1 hown' hgrow _
              obtain ⟨g', cap', rfl⟩ := ownsRow_succ hown'
              have hv1 : Boxed w1 S 22 v := (HV5.out.1.alloc _).kept hgrow (HV5.out.1.not_row (by decide) HV5.out.2)
              have hc1 := hv1.cell
              have hf1 := hv1.frozen
              refine hK _ _ ?_
              clear hK K'
              refine wpAnyIn_ready (rs := [7]) (by kernel_rfl) (by simp) ?_
              refine AllReadyIn.cons rfl (fun K' hK => ?_) AllReadyIn.nil
              go_simp
              refine hK _ _ ?_
              clear hK K'
              refine wpAnyIn_done (by kernel_rfl) ?_ _
              gi_wp2_with fail
              obtain ⟨e1, e2, e3, e4, e5⟩ := mul_end W4.heap.size W3.heap.size hv hrow hc hlt hB hSW hx1' hx2' hX5 hT5 hT6 hTS (by omega) HB5.out hr hr2 hown' hgrow
              exact ⟨e1, e2, by rw [innF_snoc, ← List.append_assoc]; exact e3, e4, hKF.trans e5⟩
          refine AllReadyIn.cons rfl (fun K' hK => ?_) AllReadyIn.nil
          go_simp
          refine hK _ _ ?_
          clear hK K'
          refine wpAnyIn_ready (rs := [1]) (by kernel_rfl) (by simp) ?_
          refine AllReadyIn.cons rfl (fun K' hK => ?_) AllReadyIn.nil
          go_simp
          refine hK _ _ ?_
          clear hK K'
          refine wpAnyIn_ready (rs := [4]) (by kernel_rfl) (by simp) ?_
          refine AllReadyIn.cons rfl (fun K' hK => ?_) AllReadyIn.nil
          as_aux_lemma =>
            go_simp
            refine ⟨trivial, ?_⟩
            rw [HDo.out.1, Oper.uponIn_enter]
            refine ⟨fun _ => by decide, (CallsIn.inRound l2 (CallsIn.inRound l (callsIn_wide.2 (HAL.out _ (by simpa using (Below.refl W'.heap.size W').drew))))).mono ?_⟩
            rintro e w5 ⟨r, rfl, hr, hr2, hb5⟩
            have hb5' : Below W'.heap.size W' w5 := ((Below.refl W'.heap.size W').drew).trans hb5
            have HB5 := Lib.hid hb5'
            have hcS5 := (hb5'.cell (p := ⟨S, 0, none⟩) HVL.out).trans hcS
            have HV5 := Lib.hid (hv5 w5 hb5')
            have hn5 : ¬ w5.heap.size = S := by have := hb5'.size; have := HVL.out; omega
            have hn5' : ¬ S = w5.heap.size := by omega
            have hl5 : S < w5.heap.size := by have := hb5'.size; have := HVL.out; omega
            have HS5 := Lib.hid (Nat.le_trans hSW hb5'.size)
            clear hb5 hb5'
            refine hK _ _ ?_
            clear hK K'
            refine wpAnyIn_ready (rs := [5]) (by kernel_rfl) (by simp) ?_
            refine AllReadyIn.cons rfl (fun K' hK => ?_) AllReadyIn.nil
            go_simp
            refine hK _ _ ?_
            clear hK K'
            refine wpAnyIn_ready (rs := [6]) (by kernel_rfl) (by simp) ?_
            refine AllReadyIn.cons rfl (fun K' hK => ?_) AllReadyIn.nil
            refine stepIn_append_ownT _ rfl (.tmp 27) (.tmp 32) 22 rfl S 46 i0 (.float .f32 0) 1 4 Try.underlying22 HI.out HZ0.out HZ1.out HZ2.out rfl (by decide) v rs.length (rs.map (Value.float .f32)) rfl (HV5.out.2.alloc _) ⟨w5.heap.size, 0, none⟩ 1 1 [.float .f32 r] rfl rfl (cell_one_new _ _ _) (by simp [Value.oneCell']) (by unfold maxLen; omega) (by omega) (by have := HS5.out; simp; omega) ?_
            intro v' w1 hown' hgrow _
            obtain ⟨g', cap', rfl⟩ := ownsRow_succ hown'
            have hv1 : Boxed w1 S 22 v := (HV5.out.1.alloc _).kept hgrow (HV5.out.1.not_row (by decide) HV5.out.2)
            have hc1 := hv1.cell
            have hf1 := hv1.frozen
            refine hK _ _ ?_
            clear hK K'
            refine wpAnyIn_ready (rs := [7]) (by kernel_rfl) (by simp) ?_
            refine AllReadyIn.cons rfl (fun K' hK => ?_) AllReadyIn.nil
            go_simp
            refine hK _ _ ?_
            clear hK K'
            refine wpAnyIn_done (by kernel_rfl) ?_ _
            gi_wp2_with fail
            obtain ⟨e1, e2, e3, e4, e5⟩ := mul_end W4.heap.size W3.heap.size hv hrow hc hlt hB hSW hx1' hx2' hX5 hT5 hT6 hTS (by omega) HB5.out hr hr2 hown' hgrow
            exact ⟨e1, e2, by rw [innF_snoc, ← List.append_assoc]; exact e3, e4, hKF.trans e5⟩
        refine AllReadyIn.cons rfl (fun K' hK => ?_) ?_
        · skip
          go_simp
          refine hK _ _ ?_
          clear hK K'
          refine wpAnyIn_ready (rs := [0, 3]) (by kernel_rfl) (by simp) ?_
          refine AllReadyIn.cons rfl (fun K' hK => ?_) ?_
          · skip
            go_simp
            refine hK _ _ ?_
            clear hK K'
            refine wpAnyIn_ready (rs := [3]) (by kernel_rfl) (by simp) ?_
            refine AllReadyIn.cons rfl (fun K' hK => ?_) AllReadyIn.nil
            go_simp
            refine hK _ _ ?_
            clear hK K'
            refine wpAnyIn_ready (rs := [4]) (by kernel_rfl) (by simp) ?_
            refine AllReadyIn.cons rfl (fun K' hK => ?_) AllReadyIn.nil
            as_aux_lemma =>
              go_simp
              refine ⟨trivial, ?_⟩
              rw [HDo.out.1, Oper.uponIn_enter]
              refine ⟨fun _ => by decide, (CallsIn.inRound l2 (CallsIn.inRound l (callsIn_wide.2 (HAL.out _ (by simpa using (Below.refl W'.heap.size W').drew))))).mono ?_⟩
              rintro e w5 ⟨r, rfl, hr, hr2, hb5⟩
              have hb5' : Below W'.heap.size W' w5 := ((Below.refl W'.heap.size W').drew).trans hb5
              have HB5 := Lib.hid hb5'
              have hcS5 := (hb5'.cell (p := ⟨S, 0, none⟩) HVL.out).trans hcS
              have HV5 := Lib.hid (hv5 w5 hb5')
              have hn5 : ¬ w5.heap.size = S := by have := hb5'.size; have := HVL.out; omega
              have hn5' : ¬ S = w5.heap.size := by omega
              have hl5 : S < w5.heap.size := by have := hb5'.size; have := HVL.out; omega
              have HS5 := Lib.hid (Nat.le_trans hSW hb5'.size)
              clear hb5 hb5'
              refine hK _ _ ?_
              clear hK K'
              refine wpAnyIn_ready (rs := [5]) (by kernel_rfl) (by simp) ?_
              refine AllReadyIn.cons rfl (fun K' hK => ?_) AllReadyIn.nil
              go_simp
              refine hK _ _ ?_
              clear hK K'
              refine wpAnyIn_ready (rs := [6]) (by kernel_rfl) (by simp) ?_
              refine AllReadyIn.cons rfl (fun K' hK => ?_) AllReadyIn.nil
              refine stepIn_append_ownT _ rfl (.tmp 27) (.tmp 32) 22 rfl S 46 i0 (.float .f32 0) 1 4 Try.underlying22 HI.out HZ0.out HZ1.out HZ2.out rfl (by decide) v rs.length (rs.map (Value.float .f32)) rfl (HV5.out.2.alloc _) ⟨w5.heap.size, 0, none⟩ 1 1 [.float .f32 r] rfl rfl (cell_one_new _ _ _) (by simp [Value.oneCell']) (by unfold maxLen; omega) (by omega) (by have := HS5.out; simp; omega) ?_
              intro v' w1 hown' hgrow _
              obtain ⟨g', cap', rfl⟩ := ownsRow_succ hown'
              have hv1 : Boxed w1 S 22 v := (HV5.out.1.alloc _).kept hgrow (HV5.out.1.not_row (by decide) HV5.out.2)
              have hc1 := hv1.cell
              have hf1 := hv1.frozen
              refine hK _ _ ?_
              clear hK K'
              refine wpAnyIn_ready (rs := [7]) (by kernel_rfl) (by simp) ?_
              refine AllReadyIn.cons rfl (fun K' hK => ?_) AllReadyIn.nil
              go_simp
              refine hK _ _ ?_
              clear hK K'
              refine wpAnyIn_done (by kernel_rfl) ?_ _
              gi_wp2_with fail
              obtain ⟨e1, e2, e3, e4, e5⟩ := mul_end W4.heap.size W3.heap.size hv hrow hc hlt hB hSW hx1' hx2' hX5 hT5 hT6 hTS (by omega) HB5.out hr hr2 hown' hgrow
              exact ⟨e1, e2, by rw [innF_snoc, ← List.append_assoc]; exact e3, e4, hKF.trans e5⟩
          refine AllReadyIn.cons rfl (fun K' hK => ?_) AllReadyIn.nil
          go_simp
          refine hK _ _ ?_
          clear hK K'
          refine wpAnyIn_ready (rs := [0, 4]) (by kernel_rfl) (by simp) ?_
          refine AllReadyIn.cons rfl (fun K' hK => ?_) ?_
          · skip
            go_simp
            refine hK _ _ ?_
            clear hK K'
            refine wpAnyIn_ready (rs := [4]) (by kernel_rfl) (by simp) ?_
            refine AllReadyIn.cons rfl (fun K' hK => ?_) AllReadyIn.nil
            as_aux_lemma =>
              go_simp
              refine ⟨trivial, ?_⟩
              rw [HDo.out.1, Oper.uponIn_enter]
              refine ⟨fun _ => by decide, (CallsIn.inRound l2 (CallsIn.inRound l (callsIn_wide.2 (HAL.out _ (by simpa using (Below.refl W'.heap.size W').drew))))).mono ?_⟩
              rintro e w5 ⟨r, rfl, hr, hr2, hb5⟩
              have hb5' : Below W'.heap.size W' w5 := ((Below.refl W'.heap.size W').drew).trans hb5
              have HB5 := Lib.hid hb5'
              have hcS5 := (hb5'.cell (p := ⟨S, 0, none⟩) HVL.out).trans hcS
              have HV5 := Lib.hid (hv5 w5 hb5')
              have hn5 : ¬ w5.heap.size = S := by have := hb5'.size; have := HVL.out; omega
              have hn5' : ¬ S = w5.heap.size := by omega
              have hl5 : S < w5.heap.size := by have := hb5'.size; have := HVL.out; omega
              have HS5 := Lib.hid (Nat.le_trans hSW hb5'.size)
              clear hb5 hb5'
              refine hK _ _ ?_
              clear hK K'
              refine wpAnyIn_ready (rs := [5]) (by kernel_rfl) (by simp) ?_
              refine AllReadyIn.cons rfl (fun K' hK => ?_) AllReadyIn.nil
              go_simp
              refine hK _ _ ?_
              clear hK K'
              refine wpAnyIn_ready (rs := [6]) (by kernel_rfl) (by simp) ?_
              refine AllReadyIn.cons rfl (fun K' hK => ?_) AllReadyIn.nil
              refine stepIn_append_ownT _ rfl (.tmp 27) (.tmp 32) 22 rfl S 46 i0 (.float .f32 0) 1 4 Try.underlying22 HI.out HZ0.out HZ1.out HZ2.out rfl (by decide) v rs.length (rs.map (Value.float .f32)) rfl (HV5.out.2.alloc _) ⟨w5.heap.size, 0, none⟩ 1 1 [.float .f32 r] rfl rfl (cell_one_new _ _ _) (by simp [Value.oneCell']) (by unfold maxLen; omega) (by omega) (by have := HS5.out; simp; omega) ?_
              intro v' w1 hown' hgrow _
              obtain ⟨g', cap', rfl⟩ := ownsRow_succ hown'
              have hv1 : Boxed w1 S 22 v := (HV5.out.1.alloc _).kept hgrow (HV5.out.1.not_row (by decide) HV5.out.2)
              have hc1 := hv1.cell
              have hf1 := hv1.frozen
              refine hK _ _ ?_
              clear hK K'
              refine wpAnyIn_ready (rs := [7]) (by kernel_rfl) (by simp) ?_
              refine AllReadyIn.cons rfl (fun K' hK => ?_) AllReadyIn.nil
              go_simp
              refine hK _ _ ?_
              clear hK K'
              refine wpAnyIn_done (by kernel_rfl) ?_ _
              gi_wp2_with fail
              obtain ⟨e1, e2, e3, e4, e5⟩ := mul_end W4.heap.size W3.heap.size hv hrow hc hlt hB hSW hx1' hx2' hX5 hT5 hT6 hTS (by omega) HB5.out hr hr2 hown' hgrow
              exact ⟨e1, e2, by rw [innF_snoc, ← List.append_assoc]; exact e3, e4, hKF.trans e5⟩
          refine AllReadyIn.cons rfl (fun K' hK => ?_) AllReadyIn.nil
          as_aux_lemma =>
            go_simp
            refine ⟨trivial, ?_⟩
            rw [HDo.out.1, Oper.uponIn_enter]
            refine ⟨fun _ => by decide, (CallsIn.inRound l2 (CallsIn.inRound l (callsIn_wide.2 (HAL.out _ (by simpa using (Below.refl W'.heap.size W').drew))))).mono ?_⟩
            rintro e w5 ⟨r, rfl, hr, hr2, hb5⟩
            have hb5' : Below W'.heap.size W' w5 := ((Below.refl W'.heap.size W').drew).trans hb5
            have HB5 := Lib.hid hb5'
            have hcS5 := (hb5'.cell (p := ⟨S, 0, none⟩) HVL.out).trans hcS
            have HV5 := Lib.hid (hv5 w5 hb5')
            have hn5 : ¬ w5.heap.size = S := by have := hb5'.size; have := HVL.out; omega
            have hn5' : ¬ S = w5.heap.size := by omega
            have hl5 : S < w5.heap.size := by have := hb5'.size; have := HVL.out; omega
            have HS5 := Lib.hid (Nat.le_trans hSW hb5'.size)
            clear hb5 hb5'
            refine hK _ _ ?_
            clear hK K'
            refine wpAnyIn_ready (rs := [0, 5]) (by kernel_rfl) (by simp) ?_
            refine AllReadyIn.cons rfl (fun K' hK => ?_) ?_
            · skip
              go_simp
              refine hK _ _ ?_
              clear hK K'
              refine wpAnyIn_ready (rs := [5]) (by kernel_rfl) (by simp) ?_
              refine AllReadyIn.cons rfl (fun K' hK => ?_) AllReadyIn.nil
              go_simp
              refine hK _ _ ?_
              clear hK K'
              refine wpAnyIn_ready (rs := [6]) (by kernel_rfl) (by simp) ?_
              refine AllReadyIn.cons rfl (fun K' hK => ?_) AllReadyIn.nil
              refine stepIn_append_ownT _ rfl (.tmp 27) (.tmp 32) 22 rfl S 46 i0 (.float .f32 0) 1 4 Try.underlying22 HI.out HZ0.out HZ1.out HZ2.out rfl (by decide) v rs.length (rs.map (Value.float .f32)) rfl (HV5.out.2.alloc _) ⟨w5.heap.size, 0, none⟩ 1 1 [.float .f32 r] rfl rfl (cell_one_new _ _ _) (by simp [Value.oneCell']) (by unfold maxLen; omega) (by omega) (by have := HS5.out; simp; omega) ?_
              intro v' w1 hown' hgrow _
              obtain ⟨g', cap', rfl⟩ := ownsRow_succ hown'
              have hv1 : Boxed w1 S 22 v := (HV5.out.1.alloc _).kept hgrow (HV5.out.1.not_row (by decide) HV5.out.2)
              have hc1 := hv1.cell
              have hf1 := hv1.frozen
              refine hK _ _ ?_
              clear hK K'
              refine wpAnyIn_ready (rs := [7]) (by kernel_rfl) (by simp) ?_
              refine AllReadyIn.cons rfl (fun K' hK => ?_) AllReadyIn.nil
              go_simp
              refine hK _ _ ?_
              clear hK K'
              refine wpAnyIn_done (by kernel_rfl) ?_ _
              gi_wp2_with fail
              obtain ⟨e1, e2, e3, e4, e5⟩ := mul_end W4.heap.size W3.heap.size hv hrow hc hlt hB hSW hx1' hx2' hX5 hT5 hT6 hTS (by omega) HB5.out hr hr2 hown' hgrow
              exact ⟨e1, e2, by rw [innF_snoc, ← List.append_assoc]; exact e3, e4, hKF.trans e5⟩
            refine AllReadyIn.cons rfl (fun K' hK => ?_) AllReadyIn.nil
            go_simp
            refine hK _ _ ?_
            clear hK K'
            refine wpAnyIn_ready (rs := [0]) (by kernel_rfl) (by simp) ?_
            refine AllReadyIn.cons rfl (fun K' hK => ?_) AllReadyIn.nil
            go_simp
            refine hK _ _ ?_
            clear hK K'
            refine wpAnyIn_ready (rs := [6]) (by kernel_rfl) (by simp) ?_
            refine AllReadyIn.cons rfl (fun K' hK => ?_) AllReadyIn.nil
            refine stepIn_append_ownT _ rfl (.tmp 27) (.tmp 32) 22 rfl S 46 i0 (.float .f32 0) 1 4 Try.underlying22 HI.out HZ0.out HZ1.out HZ2.out rfl (by decide) v rs.length (rs.map (Value.float .f32)) rfl (HV5.out.2.alloc _) ⟨w5.heap.size, 0, none⟩ 1 1 [.float .f32 r] rfl rfl (cell_one_new _ _ _) (by simp [Value.oneCell']) (by unfold maxLen; omega) (by omega) (by have := HS5.out; simp; omega) ?_
            intro v' w1 hown' hgrow _
            obtain ⟨g', cap', rfl⟩ := ownsRow_succ hown'
            have hv1 : Boxed w1 S 22 v := (HV5.out.1.alloc _).kept hgrow (HV5.out.1.not_row (by decide) HV5.out.2)
            have hc1 := hv1.cell
            have hf1 := hv1.frozen
            refine hK _ _ ?_
            clear hK K'
            refine wpAnyIn_ready (rs := [7]) (by kernel_rfl) (by simp) ?_
            refine AllReadyIn.cons rfl (fun K' hK => ?_) AllReadyIn.nil
            go_simp
            refine hK _ _ ?_
            clear hK K'
            refine wpAnyIn_done (by kernel_rfl) ?_ _
            gi_wp2_with fail
            obtain ⟨e1, e2, e3, e4, e5⟩ := mul_end W4.heap.size W3.heap.size hv hrow hc hlt hB hSW hx1' hx2' hX5 hT5 hT6 hTS (by omega) HB5.out hr hr2 hown' hgrow
            exact ⟨e1, e2, by rw [innF_snoc, ← List.append_assoc]; exact e3, e4, hKF.trans e5⟩
        refine AllReadyIn.cons rfl (fun K' hK => ?_) AllReadyIn.nil
        go_simp
        refine hK _ _ ?_
        clear hK K'
        refine wpAnyIn_ready (rs := [0, 1]) (by kernel_rfl) (by simp) ?_
        refine AllReadyIn.cons rfl (fun K' hK => ?_) ?_
        · skip
          go_simp
          refine hK _ _ ?_
          clear hK K'
          refine wpAnyIn_ready (rs := [1]) (by kernel_rfl) (by simp) ?_
          refine AllReadyIn.cons rfl (fun K' hK => ?_) AllReadyIn.nil
          go_simp
          refine hK _ _ ?_
          clear hK K'
          refine wpAnyIn_ready (rs := [4]) (by kernel_rfl) (by simp) ?_
          refine AllReadyIn.cons rfl (fun K' hK => ?_) AllReadyIn.nil
          as_aux_lemma =>
            go_simp
            refine ⟨trivial, ?_⟩
            rw [HDo.out.1, Oper.uponIn_enter]
            refine ⟨fun _ => by decide, (CallsIn.inRound l2 (CallsIn.inRound l (callsIn_wide.2 (HAL.out _ (by simpa using (Below.refl W'.heap.size W').drew))))).mono ?_⟩
            rintro e w5 ⟨r, rfl, hr, hr2, hb5⟩
            have hb5' : Below W'.heap.size W' w5 := ((Below.refl W'.heap.size W').drew).trans hb5
            have HB5 := Lib.hid hb5'
            have hcS5 := (hb5'.cell (p := ⟨S, 0, none⟩) HVL.out).trans hcS
            have HV5 := Lib.hid (hv5 w5 hb5')
            have hn5 : ¬ w5.heap.size = S := by have := hb5'.size; have := HVL.out; omega
            have hn5' : ¬ S = w5.heap.size := by omega
            have hl5 : S < w5.heap.size := by have := hb5'.size; have := HVL.out; omega
            have HS5 := Lib.hid (Nat.le_trans hSW hb5'.size)
            clear hb5 hb5'
            refine hK _ _ ?_
            clear hK K'
            refine wpAnyIn_ready (rs := [5]) (by kernel_rfl) (by simp) ?_
            refine AllReadyIn.cons rfl (fun K' hK => ?_) AllReadyIn.nil
            go_simp
            refine hK _ _ ?_
            clear hK K'
            refine wpAnyIn_ready (rs := [6]) (by kernel_rfl) (by simp) ?_
            refine AllReadyIn.cons rfl (fun K' hK => ?_) AllReadyIn.nil
            refine stepIn_append_ownT _ rfl (.tmp 27) (.tmp 32) 22 rfl S 46 i0 (.float .f32 0) 1 4 Try.underlying22 HI.out HZ0.out HZ1.out HZ2.out rfl (by decide) v rs.length (rs.map (Value.float .f32)) rfl (HV5.out.2.alloc _) ⟨w5.heap.size, 0, none⟩ 1 1 [.float .f32 r] rfl rfl (cell_one_new _ _ _) (by simp [Value.oneCell']) (by unfold maxLen; omega) (by omega) (by have := HS5.out; simp; omega) ?_
            intro v' w1 hown' hgrow _
            obtain ⟨g', cap', rfl⟩ := ownsRow_succ hown'
            have hv1 : Boxed w1 S 22 v := (HV5.out.1.alloc _).kept hgrow (HV5.out.1.not_row (by decide) HV5.out.2)
            have hc1 := hv1.cell
            have hf1 := hv1.frozen
            refine hK _ _ ?_
            clear hK K'
            refine wpAnyIn_ready (rs := [7]) (by kernel_rfl) (by simp) ?_
            refine AllReadyIn.cons rfl (fun K' hK => ?_) AllReadyIn.nil
            go_simp
            refine hK _ _ ?_
            clear hK K'
            refine wpAnyIn_done (by kernel_rfl) ?_ _
            gi_wp2_with fail
            obtain ⟨e1, e2, e3, e4, e5⟩ := mul_end W4.heap.size W3.heap.size hv hrow hc hlt hB hSW hx1' hx2' hX5 hT5 hT6 hTS (by omega) HB5.out hr hr2 hown' hgrow
            exact ⟨e1, e2, by rw [innF_snoc, ← List.append_assoc]; exact e3, e4, hKF.trans e5⟩
        refine AllReadyIn.cons rfl (fun K' hK => ?_) AllReadyIn.nil
        go_simp
        refine hK _ _ ?_
        clear hK K'
        refine wpAnyIn_ready (rs := [0, 4]) (by kernel_rfl) (by simp) ?_
        refine AllReadyIn.cons rfl (fun K' hK => ?_) ?_
        · skip
          go_simp
          refine hK _ _ ?_
          clear hK K'
          refine wpAnyIn_ready (rs := [4]) (by kernel_rfl) (by simp) ?_
          refine AllReadyIn.cons rfl (fun K' hK => ?_) AllReadyIn.nil
          as_aux_lemma =>
            go_simp
            refine ⟨trivial, ?_⟩
            rw [HDo.out.1, Oper.uponIn_enter]
            refine ⟨fun _ => by decide, (CallsIn.inRound l2 (CallsIn.inRound l (callsIn_wide.2 (HAL.out _ (by simpa using (Below.refl W'.heap.size W').drew))))).mono ?_⟩
            rintro e w5 ⟨r, rfl, hr, hr2, hb5⟩
            have hb5' : Below W'.heap.size W' w5 := ((Below.refl W'.heap.size W').drew).trans hb5
            have HB5 := Lib.hid hb5'
            have hcS5 := (hb5'.cell (p := ⟨S, 0, none⟩) HVL.out).trans hcS
            have HV5 := Lib.hid (hv5 w5 hb5')
            have hn5 : ¬ w5.heap.size = S := by have := hb5'.size; have := HVL.out; omega
            have hn5' : ¬ S = w5.heap.size := by omega
            have hl5 : S < w5.heap.size := by have := hb5'.size; have := HVL.out; omega
            have HS5 := Lib.hid (Nat.le_trans hSW hb5'.size)
            clear hb5 hb5'
            refine hK _ _ ?_
            clear hK K'
            refine wpAnyIn_ready (rs := [5]) (by kernel_rfl) (by simp) ?_
            refine AllReadyIn.cons rfl (fun K' hK => ?_) AllReadyIn.nil
            go_simp
            refine hK _ _ ?_
            clear hK K'
            refine wpAnyIn_ready (rs := [6]) (by kernel_rfl) (by simp) ?_
            refine AllReadyIn.cons rfl (fun K' hK => ?_) AllReadyIn.nil
            refine stepIn_append_ownT _ rfl (.tmp 27) (.tmp 32) 22 rfl S 46 i0 (.float .f32 0) 1 4 Try.underlying22 HI.out HZ0.out HZ1.out HZ2.out rfl (by decide) v rs.length (rs.map (Value.float .f32)) rfl (HV5.out.2.alloc _) ⟨w5.heap.size, 0, none⟩ 1 1 [.float .f32 r] rfl rfl (cell_one_new _ _ _) (by simp [Value.oneCell']) (by unfold maxLen; omega) (by omega) (by have := HS5.out; simp; omega) ?_
            intro v' w1 hown' hgrow _
            obtain ⟨g', cap', rfl⟩ := ownsRow_succ hown'
            have hv1 : Boxed w1 S 22 v := (HV5.out.1.alloc _).kept hgrow (HV5.out.1.not_row (by decide) HV5.out.2)
            have hc1 := hv1.cell
            have hf1 := hv1.frozen
            refine hK _ _ ?_
            clear hK K'
            refine wpAnyIn_ready (rs := [7]) (by kernel_rfl) (by simp) ?_
            refine AllReadyIn.cons rfl (fun K' hK => ?_) AllReadyIn.nil
            go_simp
            refine hK _ _ ?_
            clear hK K'
            refine wpAnyIn_done (by kernel_rfl) ?_ _
            gi_wp2_with fail
            obtain ⟨e1, e2, e3, e4, e5⟩ := mul_end W4.heap.size W3.heap.size hv hrow hc hlt hB hSW hx1' hx2' hX5 hT5 hT6 hTS (by omega) HB5.out hr hr2 hown' hgrow
            exact ⟨e1, e2, by rw [innF_snoc, ← List.append_assoc]; exact e3, e4, hKF.trans e5⟩
        refine AllReadyIn.cons rfl (fun K' hK => ?_) AllReadyIn.nil
        as_aux_lemma =>
          go_simp
          refine ⟨trivial, ?_⟩
          rw [HDo.out.1, Oper.uponIn_enter]
          refine ⟨fun _ => by decide, (CallsIn.inRound l2 (CallsIn.inRound l (callsIn_wide.2 (HAL.out _ (by simpa using (Below.refl W'.heap.size W').drew))))).mono ?_⟩
          rintro e w5 ⟨r, rfl, hr, hr2, hb5⟩
          have hb5' : Below W'.heap.size W' w5 := ((Below.refl W'.heap.size W').drew).trans hb5
          have HB5 := Lib.hid hb5'
          have hcS5 := (hb5'.cell (p := ⟨S, 0, none⟩) HVL.out).trans hcS
          have HV5 := Lib.hid (hv5 w5 hb5')
          have hn5 : ¬ w5.heap.size = S := by have := hb5'.size; have := HVL.out; omega
          have hn5' : ¬ S = w5.heap.size := by omega
          have hl5 : S < w5.heap.size := by have := hb5'.size; have := HVL.out; omega
          have HS5 := Lib.hid (Nat.le_trans hSW hb5'.size)
          clear hb5 hb5'
          refine hK _ _ ?_
          clear hK K'
          refine wpAnyIn_ready (rs := [0, 5]) (by kernel_rfl) (by simp) ?_
          refine AllReadyIn.cons rfl (fun K' hK => ?_) ?_
          · skip
            go_simp
            refine hK _ _ ?_
            clear hK K'
            refine wpAnyIn_ready (rs := [5]) (by kernel_rfl) (by simp) ?_
            refine AllReadyIn.cons rfl (fun K' hK => ?_) AllReadyIn.nil
            go_simp
            refine hK _ _ ?_
            clear hK K'
            refine wpAnyIn_ready (rs := [6]) (by kernel_rfl) (by simp) ?_
            refine AllReadyIn.cons rfl (fun K' hK => ?_) AllReadyIn.nil
            refine stepIn_append_ownT _ rfl (.tmp 27) (.tmp 32) 22 rfl S 46 i0 (.float .f32 0) 1 4 Try.underlying22 HI.out HZ0.out HZ1.out HZ2.out rfl (by decide) v rs.length (rs.map (Value.float .f32)) rfl (HV5.out.2.alloc _) ⟨w5.heap.size, 0, none⟩ 1 1 [.float .f32 r] rfl rfl (cell_one_new _ _ _) (by simp [Value.oneCell']) (by unfold maxLen; omega) (by omega) (by have := HS5.out; simp; omega) ?_
            intro v' w1 hown' hgrow _
            obtain ⟨g', cap', rfl⟩ := ownsRow_succ hown'
            have hv1 : Boxed w1 S 22 v := (HV5.out.1.alloc _).kept hgrow (HV5.out.1.not_row (by decide) HV5.out.2)
            have hc1 := hv1.cell
            have hf1 := hv1.frozen
            refine hK _ _ ?_
            clear hK K'
            refine wpAnyIn_ready (rs := [7]) (by kernel_rfl) (by simp) ?_
            refine AllReadyIn.cons rfl (fun K' hK => ?_) AllReadyIn.nil
            go_simp
            refine hK _ _ ?_
            clear hK K'
            refine wpAnyIn_done (by kernel_rfl) ?_ _
            gi_wp2_with fail
            obtain ⟨e1, e2, e3, e4, e5⟩ := mul_end W4.heap.size W3.heap.size hv hrow hc hlt hB hSW hx1' hx2' hX5 hT5 hT6 hTS (by omega) HB5.out hr hr2 hown' hgrow
            exact ⟨e1, e2, by rw [innF_snoc, ← List.append_assoc]; exact e3, e4, hKF.trans e5⟩
          refine AllReadyIn.cons rfl (fun K' hK => ?_) AllReadyIn.nil
          go_simp
          refine hK _ _ ?_
          clear hK K'
          refine wpAnyIn_ready (rs := [0]) (by kernel_rfl) (by simp) ?_
          refine AllReadyIn.cons rfl (fun K' hK => ?_) AllReadyIn.nil
          go_simp
          refine hK _ _ ?_
          clear hK K'
          refine wpAnyIn_ready (rs := [6]) (by kernel_rfl) (by simp) ?_
          refine AllReadyIn.cons rfl (fun K' hK => ?_) AllReadyIn.nil
          refine stepIn_append_ownT _ rfl (.tmp 27) (.tmp 32) 22 rfl S 46 i0 (.float .f32 0) 1 4 Try.underlying22 HI.out HZ0.out HZ1.out HZ2.out rfl (by decide) v rs.length (rs.map (Value.float .f32)) rfl (HV5.out.2.alloc _) ⟨w5.heap.size, 0, none⟩ 1 1 [.float .f32 r] rfl rfl (cell_one_new _ _ _) (by simp [Value.oneCell']) (by unfold maxLen; omega) (by omega) (by have := HS5.out; simp; omega) ?_
          intro v' w1 hown' hgrow _
          obtain ⟨g', cap', rfl⟩ := ownsRow_succ hown'
          have hv1 : Boxed w1 S 22 v := (HV5.out.1.alloc _).kept hgrow (HV5.out.1.not_row (by decide) HV5.out.2)
          have hc1 := hv1.cell
          have hf1 := hv1.frozen
          refine hK _ _ ?_
          clear hK K'
          refine wpAnyIn_ready (rs := [7]) (by kernel_rfl) (by simp) ?_
          refine AllReadyIn.cons rfl (fun K' hK => ?_) AllReadyIn.nil
          go_simp
          refine hK _ _ ?_
          clear hK K'
          refine wpAnyIn_done (by kernel_rfl) ?_ _
          gi_wp2_with fail
          obtain ⟨e1, e2, e3, e4, e5⟩ := mul_end W4.heap.size W3.heap.size hv hrow hc hlt hB hSW hx1' hx2' hX5 hT5 hT6 hTS (by omega) HB5.out hr hr2 hown' hgrow
          exact ⟨e1, e2, by rw [innF_snoc, ← List.append_assoc]; exact e3, e4, hKF.trans e5⟩
      refine AllReadyIn.cons rfl (fun K' hK => ?_) AllReadyIn.nil
      go_simp
      refine hK _ _ ?_
      clear hK K'
      refine wpAnyIn_ready (rs := [0, 1, 2]) (by kernel_rfl) (by simp) ?_
      refine AllReadyIn.cons rfl (fun K' hK => ?_) ?_
      · skip
        go_simp
        refine hK _ _ ?_
        clear hK K'
        refine wpAnyIn_ready (rs := [1, 2]) (by kernel_rfl) (by simp) ?_
        refine AllReadyIn.cons rfl (fun K' hK => ?_) ?_
        · skip
          go_simp
          refine hK _ _ ?_
          clear hK K'
          refine wpAnyIn_ready (rs := [2]) (by kernel_rfl) (by simp) ?_
          refine AllReadyIn.cons rfl (fun K' hK => ?_) AllReadyIn.nil
          go_simp
          refine hK _ _ ?_
          clear hK K'
          refine wpAnyIn_ready (rs := [4]) (by kernel_rfl) (by simp) ?_
          refine AllReadyIn.cons rfl (fun K' hK => ?_) AllReadyIn.nil
          as_aux_lemma =>
            go_simp
            refine ⟨trivial, ?_⟩
            rw [HDo.out.1, Oper.uponIn_enter]
            refine ⟨fun _ => by decide, (CallsIn.inRound l2 (CallsIn.inRound l (callsIn_wide.2 (HAL.out _ (by simpa using (Below.refl W'.heap.size W').drew))))).mono ?_⟩
            rintro e w5 ⟨r, rfl, hr, hr2, hb5⟩
            have hb5' : Below W'.heap.size W' w5 := ((Below.refl W'.heap.size W').drew).trans hb5
            have HB5 := Lib.hid hb5'
            have hcS5 := (hb5'.cell (p := ⟨S, 0, none⟩) HVL.out).trans hcS
            have HV5 := Lib.hid (hv5 w5 hb5')
            have hn5 : ¬ w5.heap.size = S := by have := hb5'.size; have := HVL.out; omega
            have hn5' : ¬ S = w5.heap.size := by omega
            have hl5 : S < w5.heap.size := by have := hb5'.size; have := HVL.out; omega
            have HS5 := Lib.hid (Nat.le_trans hSW hb5'.size)
            clear hb5 hb5'
            refine hK _ _ ?_
            clear hK K'
            refine wpAnyIn_ready (rs := [5]) (by kernel_rfl) (by simp) ?_
            refine AllReadyIn.cons rfl (fun K' hK => ?_) AllReadyIn.nil
            go_simp
            refine hK _ _ ?_
            clear hK K'
            refine wpAnyIn_ready (rs := [6]) (by kernel_rfl) (by simp) ?_
            refine AllReadyIn.cons rfl (fun K' hK => ?_) AllReadyIn.nil
            refine stepIn_append_ownT _ rfl (.tmp 27) (.tmp 32) 22 rfl S 46 i0 (.float .f32 0) 1 4 Try.underlying22 HI.out HZ0.out HZ1.out HZ2.out rfl (by decide) v rs.length (rs.map (Value.float .f32)) rfl (HV5.out.2.alloc _) ⟨w5.heap.size, 0, none⟩ 1 1 [.float .f32 r] rfl rfl (cell_one_new _ _ _) (by simp [Value.oneCell']) (by unfold maxLen; omega) (by omega) (by have := HS5.out; simp; omega) ?_
            intro v' w1 hown' hgrow _
            obtain ⟨g', cap', rfl⟩ := ownsRow_succ hown'
            have hv1 : Boxed w1 S 22 v := (HV5.out.1.alloc _).kept hgrow (HV5.out.1.not_row (by decide) HV5.out.2)
            have hc1 := hv1.cell
            have hf1 := hv1.frozen
            refine hK _ _ ?_
            clear hK K'
            refine wpAnyIn_ready (rs := [7]) (by kernel_rfl) (by simp) ?_
            refine AllReadyIn.cons rfl (fun K' hK => ?_) AllReadyIn.nil
            go_simp
            refine hK _ _ ?_
            clear hK K'
            refine wpAnyIn_done (by kernel_rfl) ?_ _
            gi_wp2_with fail
            obtain ⟨e1, e2, e3, e4, e5⟩ := mul_end W4.heap.size W3.heap.size hv hrow hc hlt hB hSW hx1' hx2' hX5 hT5 hT6 hTS (by omega) HB5.out hr hr2 hown' hgrow
            exact ⟨e1, e2, by rw [innF_snoc, ← List.append_assoc]; exact e3, e4, hKF.trans e5⟩
        refine AllReadyIn.cons rfl (fun K' hK => ?_) AllReadyIn.nil
        go_simp
        refine hK _ _ ?_
        clear hK K'
        refine wpAnyIn_ready (rs := [1]) (by kernel_rfl) (by simp) ?_
        refine AllReadyIn.cons rfl (fun K' hK => ?_) AllReadyIn.nil
        go_simp
        refine hK _ _ ?_
        clear hK K'
        refine wpAnyIn_ready (rs := [4]) (by kernel_rfl) (by simp) ?_
        refine AllReadyIn.cons rfl (fun K' hK => ?_) AllReadyIn.nil
        as_aux_lemma =>
          go_simp
          refine ⟨trivial, ?_⟩
          rw [HDo.out.1, Oper.uponIn_enter]
          refine ⟨fun _ => by decide, (CallsIn.inRound l2 (CallsIn.inRound l (callsIn_wide.2 (HAL.out _ (by simpa using (Below.refl W'.heap.size W').drew))))).mono ?_⟩
          rintro e w5 ⟨r, rfl, hr, hr2, hb5⟩
          have hb5' : Below W'.heap.size W' w5 := ((Below.refl W'.heap.size W').drew).trans hb5
          have HB5 := Lib.hid hb5'
          have hcS5 := (hb5'.cell (p := ⟨S, 0, none⟩) HVL.out).trans hcS
          have HV5 := Lib.hid (hv5 w5 hb5')
          have hn5 : ¬ w5.heap.size = S := by have := hb5'.size; have := HVL.out; omega
          have hn5' : ¬ S = w5.heap.size := by omega
          have hl5 : S < w5.heap.size := by have := hb5'.size; have := HVL.out; omega
          have HS5 := Lib.hid (Nat.le_trans hSW hb5'.size)
          clear hb5 hb5'
          refine hK _ _ ?_
          clear hK K'
          refine wpAnyIn_ready (rs := [5]) (by kernel_rfl) (by simp) ?_
          refine AllReadyIn.cons rfl (fun K' hK => ?_) AllReadyIn.nil
          go_simp
          refine hK _ _ ?_
          clear hK K'
          refine wpAnyIn_ready (rs := [6]) (by kernel_rfl) (by simp) ?_
          refine AllReadyIn.cons rfl (fun K' hK => ?_) AllReadyIn.nil
          refine stepIn_append_ownT _ rfl (.tmp 27) (.tmp 32) 22 rfl S 46 i0 (.float .f32 0) 1 4 Try.underlying22 HI.out HZ0.out HZ1.out HZ2.out rfl (by decide) v rs.length (rs.map (Value.float .f32)) rfl (HV5.out.2.alloc _) ⟨w5.heap.size, 0, none⟩ 1 1 [.float .f32 r] rfl rfl (cell_one_new _ _ _) (by simp [Value.oneCell']) (by unfold maxLen; omega) (by omega) (by have := HS5.out; simp; omega) ?_
          intro v' w1 hown' hgrow _
          obtain ⟨g', cap', rfl⟩ := ownsRow_succ hown'
          have hv1 : Boxed w1 S 22 v := (HV5.out.1.alloc _).kept hgrow (HV5.out.1.not_row (by decide) HV5.out.2)
          have hc1 := hv1.cell
          have hf1 := hv1.frozen
          refine hK _ _ ?_
          clear hK K'
          refine wpAnyIn_ready (rs := [7]) (by kernel_rfl) (by simp) ?_
          refine AllReadyIn.cons rfl (fun K' hK => ?_) AllReadyIn.nil
          go_simp
          refine hK _ _ ?_
          clear hK K'
          refine wpAnyIn_done (by kernel_rfl) ?_ _
          gi_wp2_with fail
          obtain ⟨e1, e2, e3, e4, e5⟩ := mul_end W4.heap.size W3.heap.size hv hrow hc hlt hB hSW hx1' hx2' hX5 hT5 hT6 hTS (by omega) HB5.out hr hr2 hown' hgrow
          exact ⟨e1, e2, by rw [innF_snoc, ← List.append_assoc]; exact e3, e4, hKF.trans e5⟩
      refine AllReadyIn.cons rfl (fun K' hK => ?_) ?_
      · skip
        go_simp
        refine hK _ _ ?_
        clear hK K'
        refine wpAnyIn_ready (rs := [0, 2]) (by kernel_rfl) (by simp) ?_
        refine AllReadyIn.cons rfl (fun K' hK => ?_) ?_
        · skip
          go_simp
          refine hK _ _ ?_
          clear hK K'
          refine wpAnyIn_ready (rs := [2]) (by kernel_rfl) (by simp) ?_
          refine AllReadyIn.cons rfl (fun K' hK => ?_) AllReadyIn.nil
          go_simp
          refine hK _ _ ?_
          clear hK K'
          refine wpAnyIn_ready (rs := [4]) (by kernel_rfl) (by simp) ?_
          refine AllReadyIn.cons rfl (fun K' hK => ?_) AllReadyIn.nil
          as_aux_lemma =>
            go_simp
            refine ⟨trivial, ?_⟩
            rw [HDo.out.1, Oper.uponIn_enter]
            refine ⟨fun _ => by decide, (CallsIn.inRound l2 (CallsIn.inRound l (callsIn_wide.2 (HAL.out _ (by simpa using (Below.refl W'.heap.size W').drew))))).mono ?_⟩
            rintro e w5 ⟨r, rfl, hr, hr2, hb5⟩
            have hb5' : Below W'.heap.size W' w5 := ((Below.refl W'.heap.size W').drew).trans hb5
            have HB5 := Lib.hid hb5'
            have hcS5 := (hb5'.cell (p := ⟨S, 0, none⟩) HVL.out).trans hcS
            have HV5 := Lib.hid (hv5 w5 hb5')
            have hn5 : ¬ w5.heap.size = S := by have := hb5'.size; have := HVL.out; omega
            have hn5' : ¬ S = w5.heap.size := by omega
            have hl5 : S < w5.heap.size := by have := hb5'.size; have := HVL.out; omega
            have HS5 := Lib.hid (Nat.le_trans hSW hb5'.size)
            clear hb5 hb5'
            refine hK _ _ ?_
            clear hK K'
            refine wpAnyIn_ready (rs := [5]) (by kernel_rfl) (by simp) ?_
            refine AllReadyIn.cons rfl (fun K' hK => ?_) AllReadyIn.nil
            go_simp
            refine hK _ _ ?_
            clear hK K'
            refine wpAnyIn_ready (rs := [6]) (by kernel_rfl) (by simp) ?_
            refine AllReadyIn.cons rfl (fun K' hK => ?_) AllReadyIn.nil
            refine stepIn_append_ownT _ rfl (.tmp 27) (.tmp 32) 22 rfl S 46 i0 (.float .f32 0) 1 4 Try.underlying22 HI.out HZ0.out HZ1.out HZ2.out rfl (by decide) v rs.length (rs.map (Value.float .f32)) rfl (HV5.out.2.alloc _) ⟨w5.heap.size, 0, none⟩ 1 1 [.float .f32 r] rfl rfl (cell_one_new _ _ _) (by simp [Value.oneCell']) (by unfold maxLen; omega) (by omega) (by have := HS5.out; simp; omega) ?_
            intro v' w1 hown' hgrow _
            obtain ⟨g', cap', rfl⟩ := ownsRow_succ hown'
            have hv1 : Boxed w1 S 22 v := (HV5.out.1.alloc _).kept hgrow (HV5.out.1.not_row (by decide) HV5.out.2)
            have hc1 := hv1.cell
            have hf1 := hv1.frozen
            refine hK _ _ ?_
            clear hK K'
            refine wpAnyIn_ready (rs := [7]) (by kernel_rfl) (by simp) ?_
            refine AllReadyIn.cons rfl (fun K' hK => ?_) AllReadyIn.nil
            go_simp
            refine hK _ _ ?_
            clear hK K'
            refine wpAnyIn_done (by kernel_rfl) ?_ _
            gi_wp2_with fail
            obtain ⟨e1, e2, e3, e4, e5⟩ := mul_end W4.heap.size W3.heap.size hv hrow hc hlt hB hSW hx1' hx2' hX5 hT5 hT6 hTS (by omega) HB5.out hr hr2 hown' hgrow
            exact ⟨e1, e2, by rw [innF_snoc, ← List.append_assoc]; exact e3, e4, hKF.trans e5⟩
        refine AllReadyIn.cons rfl (fun K' hK => ?_) AllReadyIn.nil
        go_simp
        refine hK _ _ ?_
        clear hK K'
        refine wpAnyIn_ready (rs := [0, 4]) (by kernel_rfl) (by simp) ?_
        refine AllReadyIn.cons rfl (fun K' hK => ?_) ?_
        · skip
          go_simp
          refine hK _ _ ?_
          clear hK K'
          refine wpAnyIn_ready (rs := [4]) (by kernel_rfl) (by simp) ?_
          refine AllReadyIn.cons rfl (fun K' hK => ?_) AllReadyIn.nil
          as_aux_lemma =>
            go_simp
            refine ⟨trivial, ?_⟩
            rw [HDo.out.1, Oper.uponIn_enter]
            refine ⟨fun _ => by decide, (CallsIn.inRound l2 (CallsIn.inRound l (callsIn_wide.2 (HAL.out _ (by simpa using (Below.refl W'.heap.size W').drew))))).mono ?_⟩
            rintro e w5 ⟨r, rfl, hr, hr2, hb5⟩
            have hb5' : Below W'.heap.size W' w5 := ((Below.refl W'.heap.size W').drew).trans hb5
            have HB5 := Lib.hid hb5'
            have hcS5 := (hb5'.cell (p := ⟨S, 0, none⟩) HVL.out).trans hcS
            have HV5 := Lib.hid (hv5 w5 hb5')
            have hn5 : ¬ w5.heap.size = S := by have := hb5'.size; have := HVL.out; omega
            have hn5' : ¬ S = w5.heap.size := by omega
            have hl5 : S < w5.heap.size := by have := hb5'.size; have := HVL.out; omega
            have HS5 := Lib.hid (Nat.le_trans hSW hb5'.size)
            clear hb5 hb5'
            refine hK _ _ ?_
            clear hK K'
            refine wpAnyIn_ready (rs := [5]) (by kernel_rfl) (by simp) ?_
            refine AllReadyIn.cons rfl (fun K' hK => ?_) AllReadyIn.nil
            go_simp
            refine hK _ _ ?_
            clear hK K'
            refine wpAnyIn_ready (rs := [6]) (by kernel_rfl) (by simp) ?_
            refine AllReadyIn.cons rfl (fun K' hK => ?_) AllReadyIn.nil
            refine stepIn_append_ownT _ rfl (.tmp 27) (.tmp 32) 22 rfl S 46 i0 (.float .f32 0) 1 4 Try.underlying22 HI.out HZ0.out HZ1.out HZ2.out rfl (by decide) v rs.length (rs.map (Value.float .f32)) rfl (HV5.out.2.alloc _) ⟨w5.heap.size, 0, none⟩ 1 1 [.float .f32 r] rfl rfl (cell_one_new _ _ _) (by simp [Value.oneCell']) (by unfold maxLen; omega) (by omega) (by have := HS5.out; simp; omega) ?_
            intro v' w1 hown' hgrow _
            obtain ⟨g', cap', rfl⟩ := ownsRow_succ hown'
            have hv1 : Boxed w1 S 22 v := (HV5.out.1.alloc _).kept hgrow (HV5.out.1.not_row (by decide) HV5.out.2)
            have hc1 := hv1.cell
            have hf1 := hv1.frozen
            refine hK _ _ ?_
            clear hK K'
            refine wpAnyIn_ready (rs := [7]) (by kernel_rfl) (by simp) ?_
            refine AllReadyIn.cons rfl (fun K' hK => ?_) AllReadyIn.nil
            go_simp
            refine hK _ _ ?_
            clear hK K'
            refine wpAnyIn_done (by kernel_rfl) ?_ _
            gi_wp2_with fail
            obtain ⟨e1, e2, e3, e4, e5⟩ := mul_end W4.heap.size W3.heap.size hv hrow hc hlt hB hSW hx1' hx2' hX5 hT5 hT6 hTS (by omega) HB5.out hr hr2 hown' hgrow
            exact ⟨e1, e2, by rw [innF_snoc, ← List.append_assoc]; exact e3, e4, hKF.trans e5⟩
        refine AllReadyIn.cons rfl (fun K' hK => ?_) AllReadyIn.nil
        as_aux_lemma =>
          go_simp
          refine ⟨trivial, ?_⟩
          rw [HDo.out.1, Oper.uponIn_enter]
          refine ⟨fun _ => by decide, (CallsIn.inRound l2 (CallsIn.inRound l (callsIn_wide.2 (HAL.out _ (by simpa using (Below.refl W'.heap.size W').drew))))).mono ?_⟩
          rintro e w5 ⟨r, rfl, hr, hr2, hb5⟩
          have hb5' : Below W'.heap.size W' w5 := ((Below.refl W'.heap.size W').drew).trans hb5
          have HB5 := Lib.hid hb5'
          have hcS5 := (hb5'.cell (p := ⟨S, 0, none⟩) HVL.out).trans hcS
          have HV5 := Lib.hid (hv5 w5 hb5')
          have hn5 : ¬ w5.heap.size = S := by have := hb5'.size; have := HVL.out; omega
          have hn5' : ¬ S = w5.heap.size := by omega
          have hl5 : S < w5.heap.size := by have := hb5'.size; have := HVL.out; omega
          have HS5 := Lib.hid (Nat.le_trans hSW hb5'.size)
          clear hb5 hb5'
          refine hK _ _ ?_
          clear hK K'
          refine wpAnyIn_ready (rs := [0, 5]) (by kernel_rfl) (by simp) ?_
          refine AllReadyIn.cons rfl (fun K' hK => ?_) ?_
          · skip
            go_simp
            refine hK _ _ ?_
            clear hK K'
            refine wpAnyIn_ready (rs := [5]) (by kernel_rfl) (by simp) ?_
            refine AllReadyIn.cons rfl (fun K' hK => ?_) AllReadyIn.nil
            go_simp
            refine hK _ _ ?_
            clear hK K'
            refine wpAnyIn_ready (rs := [6]) (by kernel_rfl) (by simp) ?_
            refine AllReadyIn.cons rfl (fun K' hK => ?_) AllReadyIn.nil
            refine stepIn_append_ownT _ rfl (.tmp 27) (.tmp 32) 22 rfl S 46 i0 (.float .f32 0) 1 4 Try.underlying22 HI.out HZ0.out HZ1.out HZ2.out rfl (by decide) v rs.length (rs.map (Value.float .f32)) rfl (HV5.out.2.alloc _) ⟨w5.heap.size, 0, none⟩ 1 1 [.float .f32 r] rfl rfl (cell_one_new _ _ _) (by simp [Value.oneCell']) (by unfold maxLen; omega) (by omega) (by have := HS5.out; simp; omega) ?_
            intro v' w1 hown' hgrow _
            obtain ⟨g', cap', rfl⟩ := ownsRow_succ hown'
            have hv1 : Boxed w1 S 22 v := (HV5.out.1.alloc _).kept hgrow (HV5.out.1.not_row (by decide) HV5.out.2)
            have hc1 := hv1.cell
            have hf1 := hv1.frozen
            refine hK _ _ ?_
            clear hK K'
            refine wpAnyIn_ready (rs := [7]) (by kernel_rfl) (by simp) ?_
            refine AllReadyIn.cons rfl (fun K' hK => ?_) AllReadyIn.nil
            go_simp
            refine hK _ _ ?_
            clear hK K'
            refine wpAnyIn_done (by kernel_rfl) ?_ _
            gi_wp2_with fail
            obtain ⟨e1, e2, e3, e4, e5⟩ := mul_end W4.heap.size W3.heap.size hv hrow hc hlt hB hSW hx1' hx2' hX5 hT5 hT6 hTS (by omega) HB5.out hr hr2 hown' hgrow
            exact ⟨e1, e2, by rw [innF_snoc, ← List.append_assoc]; exact e3, e4, hKF.trans e5⟩
          refine AllReadyIn.cons rfl (fun K' hK => ?_) AllReadyIn.nil
          go_simp
          refine hK _ _ ?_
          clear hK K'
          refine wpAnyIn_ready (rs := [0]) (by kernel_rfl) (by simp) ?_
          refine AllReadyIn.cons rfl (fun K' hK => ?_) AllReadyIn.nil
          go_simp
          refine hK _ _ ?_
          clear hK K'
          refine wpAnyIn_ready (rs := [6]) (by kernel_rfl) (by simp) ?_
          refine AllReadyIn.cons rfl (fun K' hK => ?_) AllReadyIn.nil
          refine stepIn_append_ownT _ rfl (.tmp 27) (.tmp 32) 22 rfl S 46 i0 (.float .f32 0) 1 4 Try.underlying22 HI.out HZ0.out HZ1.out HZ2.out rfl (by decide) v rs.length (rs.map (Value.float .f32)) rfl (HV5.out.2.alloc _) ⟨w5.heap.size, 0, none⟩ 1 1 [.float .f32 r] rfl rfl (cell_one_new _ _ _) (by simp [Value.oneCell']) (by unfold maxLen; omega) (by omega) (by have := HS5.out; simp; omega) ?_
          intro v' w1 hown' hgrow _
          obtain ⟨g', cap', rfl⟩ := ownsRow_succ hown'
          have hv1 : Boxed w1 S 22 v := (HV5.out.1.alloc _).kept hgrow (HV5.out.1.not_row (by decide) HV5.out.2)
          have hc1 := hv1.cell
          have hf1 := hv1.frozen
          refine hK _ _ ?_
          clear hK K'
          refine wpAnyIn_ready (rs := [7]) (by kernel_rfl) (by simp) ?_
          refine AllReadyIn.cons rfl (fun K' hK => ?_) AllReadyIn.nil
          go_simp
          refine hK _ _ ?_
          clear hK K'
          refine wpAnyIn_done (by kernel_rfl) ?_ _
          gi_wp2_with fail
          obtain ⟨e1, e2, e3, e4, e5⟩ := mul_end W4.heap.size W3.heap.size hv hrow hc hlt hB hSW hx1' hx2' hX5 hT5 hT6 hTS (by omega) HB5.out hr hr2 hown' hgrow
          exact ⟨e1, e2, by rw [innF_snoc, ← List.append_assoc]; exact e3, e4, hKF.trans e5⟩
      refine AllReadyIn.cons rfl (fun K' hK => ?_) AllReadyIn.nil
      go_simp
      refine hK _ _ ?_
      clear hK K'
      refine wpAnyIn_ready (rs := [0, 1]) (by kernel_rfl) (by simp) ?_
      refine AllReadyIn.cons rfl (fun K' hK => ?_) ?_
      · skip
        go_simp
        refine hK _ _ ?_
        clear hK K'
        refine wpAnyIn_ready (rs := [1]) (by kernel_rfl) (by simp) ?_
        refine AllReadyIn.cons rfl (fun K' hK => ?_) AllReadyIn.nil
        go_simp
        refine hK _ _ ?_
        clear hK K'
        refine wpAnyIn_ready (rs := [4]) (by kernel_rfl) (by simp) ?_
        refine AllReadyIn.cons rfl (fun K' hK => ?_) AllReadyIn.nil
        as_aux_lemma =>
          go_simp
          refine ⟨trivial, ?_⟩
          rw [HDo.out.1, Oper.uponIn_enter]
          refine ⟨fun _ => by decide, (CallsIn.inRound l2 (CallsIn.inRound l (callsIn_wide.2 (HAL.out _ (by simpa using (Below.refl W'.heap.size W').drew))))).mono ?_⟩
          rintro e w5 ⟨r, rfl, hr, hr2, hb5⟩
          have hb5' : Below W'.heap.size W' w5 := ((Below.refl W'.heap.size W').drew).trans hb5
          have HB5 := Lib.hid hb5'
          have hcS5 := (hb5'.cell (p := ⟨S, 0, none⟩) HVL.out).trans hcS
          have HV5 := Lib.hid (hv5 w5 hb5')
          have hn5 : ¬ w5.heap.size = S := by have := hb5'.size; have := HVL.out; omega
          have hn5' : ¬ S = w5.heap.size := by omega
          have hl5 : S < w5.heap.size := by have := hb5'.size; have := HVL.out; omega
          have HS5 := Lib.hid (Nat.le_trans hSW hb5'.size)
          clear hb5 hb5'
          refine hK _ _ ?_
          clear hK K'
          refine wpAnyIn_ready (rs := [5]) (by kernel_rfl) (by simp) ?_
          refine AllReadyIn.cons rfl (fun K' hK => ?_) AllReadyIn.nil
          go_simp
          refine hK _ _ ?_
          clear hK K'
          refine wpAnyIn_ready (rs := [6]) (by kernel_rfl) (by simp) ?_
          refine AllReadyIn.cons rfl (fun K' hK => ?_) AllReadyIn.nil
          refine stepIn_append_ownT _ rfl (.tmp 27) (.tmp 32) 22 rfl S 46 i0 (.float .f32 0) 1 4 Try.underlying22 HI.out HZ0.out HZ1.out HZ2.out rfl (by decide) v rs.length (rs.map (Value.float .f32)) rfl (HV5.out.2.alloc _) ⟨w5.heap.size, 0, none⟩ 1 1 [.float .f32 r] rfl rfl (cell_one_new _ _ _) (by simp [Value.oneCell']) (by unfold maxLen; omega) (by omega) (by have := HS5.out; simp; omega) ?_
          intro v' w1 hown' hgrow _
          obtain ⟨g', cap', rfl⟩ := ownsRow_succ hown'
          have hv1 : Boxed w1 S 22 v := (HV5.out.1.alloc _).kept hgrow (HV5.out.1.not_row (by decide) HV5.out.2)
          have hc1 := hv1.cell
          have hf1 := hv1.frozen
          refine hK _ _ ?_
          clear hK K'
          refine wpAnyIn_ready (rs := [7]) (by kernel_rfl) (by simp) ?_
          refine AllReadyIn.cons rfl (fun K' hK => ?_) AllReadyIn.nil
          go_simp
          refine hK _ _ ?_
          clear hK K'
          refine wpAnyIn_done (by kernel_rfl) ?_ _
          gi_wp2_with fail
          obtain ⟨e1, e2, e3, e4, e5⟩ := mul_end W4.heap.size W3.heap.size hv hrow hc hlt hB hSW hx1' hx2' hX5 hT5 hT6 hTS (by omega) HB5.out hr hr2 hown' hgrow
          exact ⟨e1, e2, by rw [innF_snoc, ← List.append_assoc]; exact e3, e4, hKF.trans e5⟩
      refine AllReadyIn.cons rfl (fun K' hK => ?_) AllReadyIn.nil
      go_simp
      refine hK _ _ ?_
      clear hK K'
      refine wpAnyIn_ready (rs := [0, 4]) (by kernel_rfl) (by simp) ?_
      refine AllReadyIn.cons rfl (fun K' hK => ?_) ?_
      · skip
        go_simp
        refine hK _ _ ?_
        clear hK K'
        refine wpAnyIn_ready (rs := [4]) (by kernel_rfl) (by simp) ?_
        refine AllReadyIn.cons rfl (fun K' hK => ?_) AllReadyIn.nil
        as_aux_lemma =>
          go_simp
          refine ⟨trivial, ?_⟩
          rw [HDo.out.1, Oper.uponIn_enter]
          refine ⟨fun _ => by decide, (CallsIn.inRound l2 (CallsIn.inRound l (callsIn_wide.2 (HAL.out _ (by simpa using (Below.refl W'.heap.size W').drew))))).mono ?_⟩
          rintro e w5 ⟨r, rfl, hr, hr2, hb5⟩
          have hb5' : Below W'.heap.size W' w5 := ((Below.refl W'.heap.size W').drew).trans hb5
          have HB5 := Lib.hid hb5'
          have hcS5 := (hb5'.cell (p := ⟨S, 0, none⟩) HVL.out).trans hcS
          have HV5 := Lib.hid (hv5 w5 hb5')
          have hn5 : ¬ w5.heap.size = S := by have := hb5'.size; have := HVL.out; omega
          have hn5' : ¬ S = w5.heap.size := by omega
          have hl5 : S < w5.heap.size := by have := hb5'.size; have := HVL.out; omega
          have HS5 := Lib.hid (Nat.le_trans hSW hb5'.size)
          clear hb5 hb5'
          refine hK _ _ ?_
          clear hK K'
          refine wpAnyIn_ready (rs := [5]) (by kernel_rfl) (by simp) ?_
          refine AllReadyIn.cons rfl (fun K' hK => ?_) AllReadyIn.nil
          go_simp
          refine hK _ _ ?_
          clear hK K'
          refine wpAnyIn_ready (rs := [6]) (by kernel_rfl) (by simp) ?_
          refine AllReadyIn.cons rfl (fun K' hK => ?_) AllReadyIn.nil
          refine stepIn_append_ownT _ rfl (.tmp 27) (.tmp 32) 22 rfl S 46 i0 (.float .f32 0) 1 4 Try.underlying22 HI.out HZ0.out HZ1.out HZ2.out rfl (by decide) v rs.length (rs.map (Value.float .f32)) rfl (HV5.out.2.alloc _) ⟨w5.heap.size, 0, none⟩ 1 1 [.float .f32 r] rfl rfl (cell_one_new _ _ _) (by simp [Value.oneCell']) (by unfold maxLen; omega) (by omega) (by have := HS5.out; simp; omega) ?_
          intro v' w1 hown' hgrow _
          obtain ⟨g', cap', rfl⟩ := ownsRow_succ hown'
          have hv1 : Boxed w1 S 22 v := (HV5.out.1.alloc _).kept hgrow (HV5.out.1.not_row (by decide) HV5.out.2)
          have hc1 := hv1.cell
          have hf1 := hv1.frozen
          refine hK _ _ ?_
          clear hK K'
          refine wpAnyIn_ready (rs := [7]) (by kernel_rfl) (by simp) ?_
          refine AllReadyIn.cons rfl (fun K' hK => ?_) AllReadyIn.nil
          go_simp
          refine hK _ _ ?_
          clear hK K'
          refine wpAnyIn_done (by kernel_rfl) ?_ _
          gi_wp2_with fail
          obtain ⟨e1, e2, e3, e4, e5⟩ := mul_end W4.heap.size W3.heap.size hv hrow hc hlt hB hSW hx1' hx2' hX5 hT5 hT6 hTS (by omega) HB5.out hr hr2 hown' hgrow
          exact ⟨e1, e2, by rw [innF_snoc, ← List.append_assoc]; exact e3, e4, hKF.trans e5⟩
      refine AllReadyIn.cons rfl (fun K' hK => ?_) AllReadyIn.nil
      as_aux_lemma =>
        go_simp
        refine ⟨trivial, ?_⟩
        rw [HDo.out.1, Oper.uponIn_enter]
        refine ⟨fun _ => by decide, (CallsIn.inRound l2 (CallsIn.inRound l (callsIn_wide.2 (HAL.out _ (by simpa using (Below.refl W'.heap.size W').drew))))).mono ?_⟩
        rintro e w5 ⟨r, rfl, hr, hr2, hb5⟩
        have hb5' : Below W'.heap.size W' w5 := ((Below.refl W'.heap.size W').drew).trans hb5
        have HB5 := Lib.hid hb5'
        have hcS5 := (hb5'.cell (p := ⟨S, 0, none⟩) HVL.out).trans hcS
        have HV5 := Lib.hid (hv5 w5 hb5')
        have hn5 : ¬ w5.heap.size = S := by have := hb5'.size; have := HVL.out; omega
        have hn5' : ¬ S = w5.heap.size := by omega
        have hl5 : S < w5.heap.size := by have := hb5'.size; have := HVL.out; omega
        have HS5 := Lib.hid (Nat.le_trans hSW hb5'.size)
        clear hb5 hb5'
        refine hK _ _ ?_
        clear hK K'
        refine wpAnyIn_ready (rs := [0, 5]) (by kernel_rfl) (by simp) ?_
        refine AllReadyIn.cons rfl (fun K' hK => ?_) ?_
        · skip
          go_simp
          refine hK _ _ ?_
          clear hK K'
          refine wpAnyIn_ready (rs := [5]) (by kernel_rfl) (by simp) ?_
          refine AllReadyIn.cons rfl (fun K' hK => ?_) AllReadyIn.nil
          go_simp
          refine hK _ _ ?_
          clear hK K'
          refine wpAnyIn_ready (rs := [6]) (by kernel_rfl) (by simp) ?_
          refine AllReadyIn.cons rfl (fun K' hK => ?_) AllReadyIn.nil
          refine stepIn_append_ownT _ rfl (.tmp 27) (.tmp 32) 22 rfl S 46 i0 (.float .f32 0) 1 4 Try.underlying22 HI.out HZ0.out HZ1.out HZ2.out rfl (by decide) v rs.length (rs.map (Value.float .f32)) rfl (HV5.out.2.alloc _) ⟨w5.heap.size, 0, none⟩ 1 1 [.float .f32 r] rfl rfl (cell_one_new _ _ _) (by simp [Value.oneCell']) (by unfold maxLen; omega) (by omega) (by have := HS5.out; simp; omega) ?_
          intro v' w1 hown' hgrow _
          obtain ⟨g', cap', rfl⟩ := ownsRow_succ hown'
          have hv1 : Boxed w1 S 22 v := (HV5.out.1.alloc _).kept hgrow (HV5.out.1.not_row (by decide) HV5.out.2)
          have hc1 := hv1.cell
          have hf1 := hv1.frozen
          refine hK _ _ ?_
          clear hK K'
          refine wpAnyIn_ready (rs := [7]) (by kernel_rfl) (by simp) ?_
          refine AllReadyIn.cons rfl (fun K' hK => ?_) AllReadyIn.nil
          go_simp
          refine hK _ _ ?_
          clear hK K'
          refine wpAnyIn_done (by kernel_rfl) ?_ _
          gi_wp2_with fail
          obtain ⟨e1, e2, e3, e4, e5⟩ := mul_end W4.heap.size W3.heap.size hv hrow hc hlt hB hSW hx1' hx2' hX5 hT5 hT6 hTS (by omega) HB5.out hr hr2 hown' hgrow
          exact ⟨e1, e2, by rw [innF_snoc, ← List.append_assoc]; exact e3, e4, hKF.trans e5⟩
        refine AllReadyIn.cons rfl (fun K' hK => ?_) AllReadyIn.nil
        go_simp
        refine hK _ _ ?_
        clear hK K'
        refine wpAnyIn_ready (rs := [0]) (by kernel_rfl) (by simp) ?_
        refine AllReadyIn.cons rfl (fun K' hK => ?_) AllReadyIn.nil
        go_simp
        refine hK _ _ ?_
        clear hK K'
        refine wpAnyIn_ready (rs := [6]) (by kernel_rfl) (by simp) ?_
        refine AllReadyIn.cons rfl (fun K' hK => ?_) AllReadyIn.nil
        refine stepIn_append_ownT _ rfl (.tmp 27) (.tmp 32) 22 rfl S 46 i0 (.float .f32 0) 1 4 Try.underlying22 HI.out HZ0.out HZ1.out HZ2.out rfl (by decide) v rs.length (rs.map (Value.float .f32)) rfl (HV5.out.2.alloc _) ⟨w5.heap.size, 0, none⟩ 1 1 [.float .f32 r] rfl rfl (cell_one_new _ _ _) (by simp [Value.oneCell']) (by unfold maxLen; omega) (by omega) (by have := HS5.out; simp; omega) ?_
        intro v' w1 hown' hgrow _
        obtain ⟨g', cap', rfl⟩ := ownsRow_succ hown'
        have hv1 : Boxed w1 S 22 v := (HV5.out.1.alloc _).kept hgrow (HV5.out.1.not_row (by decide) HV5.out.2)
        have hc1 := hv1.cell
        have hf1 := hv1.frozen
        refine hK _ _ ?_
        clear hK K'
        refine wpAnyIn_ready (rs := [7]) (by kernel_rfl) (by simp) ?_
        refine AllReadyIn.cons rfl (fun K' hK => ?_) AllReadyIn.nil
        go_simp
        refine hK _ _ ?_
        clear hK K'
        refine wpAnyIn_done (by kernel_rfl) ?_ _
        gi_wp2_with fail
        obtain ⟨e1, e2, e3, e4, e5⟩ := mul_end W4.heap.size W3.heap.size hv hrow hc hlt hB hSW hx1' hx2' hX5 hT5 hT6 hTS (by omega) HB5.out hr hr2 hown' hgrow
        exact ⟨e1, e2, by rw [innF_snoc, ← List.append_assoc]; exact e3, e4, hKF.trans e5⟩
end Go.Proofs.Ytkfpaehalfjhhaa
