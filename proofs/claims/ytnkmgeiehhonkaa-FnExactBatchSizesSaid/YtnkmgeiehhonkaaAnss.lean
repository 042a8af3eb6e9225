/-
  Words for lists of Answer: sizes, copies, comparing, marking and looking again. Conditions: the cells can be read.
-/
import Derived.Test.YtnkmgeiehhonkaaAns
namespace Go.Proofs.Ytnkmgeiehhonkaa
open Go.RowKit
set_option linter.unusedVariables false

/-- the cells of a list -/
def anssC (ls : List AnsA) : List Cl := ls.flatMap AnsA.cs
def ansSum (ps : List AnsP) : Nat := (ps.map AnsP.n).sum
theorem anssC_length (ls : List AnsA) : (anssC ls).length = ls.length * 3 := by
  induction ls with
  | nil => rfl
  | cons l ls ih => simp only [anssC, List.flatMap_cons, List.length_append, List.length_cons, AnsA.cs_len] at ih ⊢; omega
theorem anssC_get (ls : List AnsA) (i : Nat) (x : AnsA) (h : ls[i]? = some x) (j : Nat) (hj : j < 3) : (anssC ls)[i * 3 + j]? = x.cs[j]? := by
  induction ls generalizing i with
  | nil => simp at h
  | cons l ls ih =>
    simp only [anssC, List.flatMap_cons] at ih ⊢
    cases i with
    | zero =>
      simp only [List.getElem?_cons_zero, Option.some.injEq] at h
      subst h
      rw [Nat.zero_mul, Nat.zero_add, List.getElem?_append_left (by rw [AnsA.cs_len]; exact hj)]
    | succ i =>
      simp only [List.getElem?_cons_succ] at h
      rw [List.getElem?_append_right (by rw [AnsA.cs_len]; omega), AnsA.cs_len, show (i + 1) * 3 + j - 3 = i * 3 + j by omega]
      exact ih i h
def AnssAt (w : World) (g : Option Addr) (n cap : Nat) (ls : List AnsA) : Prop :=
  ls.length = n ∧ n ≤ cap ∧ cap ≤ maxLen ∧ AtL w (anssC ls) ∧ (n = 0 ∨ ∃ b off, g = some ⟨b, off, none⟩ ∧ b < w.heap.size ∧ ∀ i, i < n * 3 → w.cell? ⟨b, off + i, none⟩ = (vs (anssC ls))[i]?)
theorem anssAt_cl {w : World} {t : TypeId} {g : Option Addr} {c : Nat} {ls : List AnsA} : (Cl.sl t 3 ls.length g c (anssC ls)).At w ↔ AnssAt w g ls.length c ls := by
  simp only [Cl.At, AnssAt, anssC_length, true_and]
  constructor
  · rintro ⟨⟨h1, h2, h3⟩, h4⟩; exact ⟨h1, h2, h4, h3⟩
  · rintro ⟨h1, h2, h4, h3⟩; exact ⟨⟨h1, h2, h3⟩, h4⟩
theorem anssAt_own {w : World} {B : Nat} {t : TypeId} {g : Option Addr} {n c : Nat} {ys : List AnsA} (hl : ys.length = n) (h : OwnL w B [.sl t 3 n g c (anssC ys)]) : AnssAt w g n c ys := by
  subst hl
  exact anssAt_cl.1 ((OwnL.at _ h).1)
theorem ans_can_of {xs ys : List AnsA} (h : xs.map AnsA.p = ys.map AnsA.p) : xs.map (fun x => x.p.can) = ys.map (fun x => x.p.can) := by
  have h1 : (xs.map AnsA.p).map AnsP.can = (ys.map AnsA.p).map AnsP.can := by rw [h]
  simpa [List.map_map, Function.comp_def] using h1
theorem AnssAt.kept {w w' : World} {g : Option Addr} {n cap : Nat} {ls : List AnsA} (h : AnssAt w g n cap ls) (hb : Below w.heap.size w w') : AnssAt w' g n cap ls := by
  obtain ⟨rfl, r⟩ := h
  have h : AnssAt w g ls.length cap ls := ⟨rfl, r⟩
  exact anssAt_cl.1 (Cl.At.kept hb _ (anssAt_cl (t := 0).2 h))
theorem AnssAt.one {w : World} {g : Option Addr} {n cap : Nat} {ls : List AnsA} (h : AnssAt w g n cap ls) {i : Nat} (hi : i < n) : ∃ (b off : Nat) (tk : Int) (ba : Int) (ro : List Nat) (a0 : Option Addr) (c0 : Nat), g = some ⟨b, off, none⟩ ∧ b < w.heap.size ∧ ls[i]? = some ⟨⟨tk, ba, ro⟩, a0, c0⟩ ∧
    w.cell? ⟨b, off + i * 3, none⟩ = some (.int .i64 tk) ∧ w.cell? ⟨b, off + i * 3 + 1, none⟩ = some (.int .i64 ba) ∧ w.cell? ⟨b, off + i * 3 + 2, none⟩ = some (.slice a0 ro.length c0) ∧
    IsFloats .f32 w a0 ro.length c0 ro := by
  obtain ⟨hl, _, _, ha, hc⟩ := h
  have hx : ls[i]? = some ls[i] := List.getElem?_eq_getElem (by omega)
  obtain ⟨x, hx'⟩ : ∃ x, ls[i] = x := ⟨_, rfl⟩
  rw [hx'] at hx
  rcases hc with h0 | ⟨b, off, rfl, hb, hc⟩
  · omega
  · have hcell : ∀ j, j < 3 → w.cell? ⟨b, off + i * 3 + j, none⟩ = (vs x.cs)[j]? := by
      intro j hj
      have h1 := hc (i * 3 + j) (by omega)
      rw [← Nat.add_assoc] at h1
      rw [h1]
      simp only [vs, List.getElem?_map, anssC_get ls i x hx j hj]
    have hat : AtL w x.cs := by
      rw [AtL_iff] at ha ⊢
      intro c hcm
      exact ha c (List.mem_flatMap.2 ⟨x, List.mem_of_getElem? hx, hcm⟩)
    rw [AnsA.at_iff] at hat
    obtain ⟨⟨tk, ba, ro⟩, a0, c0⟩ := x
    exact ⟨b, off, tk, ba, ro, a0, c0, rfl, hb, hx, hcell 0 (by omega), hcell 1 (by omega), hcell 2 (by omega), hat⟩
theorem AnssAt.floats {w : World} {g : Option Addr} {n cap : Nat} {ls : List AnsA} (h : AnssAt w g n cap ls) {i : Nat} {x : AnsA} (hx : ls[i]? = some x) : IsFloats .f32 w x.a0 x.p.ro.length x.c0 x.p.ro := by
  have ha := h.2.2.2.1
  rw [AtL_iff] at ha
  exact AnsA.at_iff.1 (AtL_iff.2 fun c hc => ha c (List.mem_flatMap.2 ⟨x, List.mem_of_getElem? hx, hc⟩))
theorem ansSum_append (a b : List AnsP) : ansSum (a ++ b) = ansSum a + ansSum b := by simp [ansSum]
theorem ansSum_take {ls : List AnsA} {i : Nat} {x : AnsA} (h : ls[i]? = some x) : ansSum ((ls.take (i + 1)).map AnsA.p) = ansSum ((ls.take i).map AnsA.p) + (x.p.ro.length) := by
  rw [List.take_add_one, h, List.map_append, ansSum_append]
  simp [ansSum, AnsP.n]
theorem ansSum_le {ls : List AnsA} (i : Nat) : ansSum ((ls.take i).map AnsA.p) ≤ ansSum (ls.map AnsA.p) := by
  have h : ls.map AnsA.p = (ls.take i).map AnsA.p ++ (ls.drop i).map AnsA.p := by rw [← List.map_append, List.take_append_drop]
  rw [h, ansSum_append]
  omega
set_option maxRecDepth 100000 in
open Go.ChangeShapes Go.WideShapes Go.Deep in
theorem open_Anss {H : Type} {enc : TypeId × Value → H} {W : World} {base b0 : Nat} {re : Reach} {held : Bool} {v : Value} {d : DataW H} {p : List MemPlace}
    (hv : Value.okWide Try.prog W re b0 28 v) (h : DataW.Trod enc Try.prog W base (fun _ => true) held 28 v d p) :
    ∃ (g : Option Addr) (c : Nat) (ls : List AnsA), v = .slice g ls.length c ∧ AnssAt W g ls.length c ls := by
  obtain ⟨a, len, cap, rfl⟩ := okWide_slice Try.underlying28 hv
  obtain ⟨fuel, hf⟩ := h
  obtain ⟨l, e, ha, ht⟩ := opened 4 _ _ _ _ _ (show tyOf Try.prog 4 28 = some [.sl 136 3 [.int, .int, .sl 72 1 [.f32]]] by kernel_rfl) hf
  simp only [typedL, Cl.typed.eq_4] at ht
  obtain ⟨c0, l0, rfl, ⟨g, cp, ls, rfl, hl⟩, rfl⟩ := ht
  obtain ⟨rs, e1, e2⟩ := typed_list AnsA.cs (fun l h => AnsA.typed h) ls hl
  rw [e1, ← e2] at ha e
  simp only [Value.cells, vs, List.map_cons, List.map_nil, Cl.v, List.cons.injEq, Value.slice.injEq, and_true] at e
  obtain ⟨rfl, rfl, rfl⟩ := e
  exact ⟨_, _, rs, rfl, anssAt_cl.1 (by simpa [AtL, anssC] using ha)⟩
def SzAnsRel (ls : List AnsA) (l : Nat) (w : World) (lv iv : Value) (wr : World) : Prop :=
  ∃ j : Nat, j ≤ ls.length ∧ iv = .int .i64 j ∧ ansSum ((ls.take j).map AnsA.p) ≤ l ∧ lv = .int .i64 ((l - ansSum ((ls.take j).map AnsA.p) : Nat) : Int) ∧ Below w.heap.size w wr
set_option maxRecDepth 20000 in
set_option maxHeartbeats 1000000 in
theorem c_szAnss (g : Option Addr) (cap n l r : Nat) (ls : List AnsA) (w : World) (h : AnssAt w g n cap ls) (hl : l ≤ 1048576) (hs : n + ansSum (ls.map AnsA.p) ≤ l) (hr : l - (n + ansSum (ls.map AnsA.p)) = r) :
    Calls Try.prog 20 #[.slice g n cap, .int .i64 l] w fun e w' => e = .returned (.int .i64 (r : Int)) ∧ Below w.heap.size w w' := by
  have hln : ls.length = n := h.1
  have H := Lib.hid h
  have HS := Lib.hid hs
  have HR := Lib.hid hr
  have HN := Lib.hid hln
  obtain ⟨l0, e0⟩ : ∃ l0, l - n = l0 := ⟨_, rfl⟩
  have E0 := Lib.hid e0
  have hnl : (n : Int) ≤ (l : Int) := by omega
  have hl0 : l0 ≤ 1048576 := by omega
  have hw : (l : Int) - (n : Int) = (l0 : Int) := by omega
  have HW := Lib.hid hw
  have h0 : (0 : Int) ≤ (l0 : Int) := by omega
  clear h hs hr hln e0 hw
  go_enter Try.func20, Try.ntmps20
  go_wp2_with fail
  rw [HW.out]
  go_wp2_with fail
  go_loopw [1, 5] (fun lv iv wr => SzAnsRel ls l0 w lv iv wr) (fun _ iv _ => n - (intOf iv).toNat)
  case atStart => exact ⟨0, Nat.zero_le _, rfl, by simp [ansSum], by simp [ansSum], Below.refl _ _⟩
  case round =>
    obtain ⟨j, hj, rfl, hle, rfl, hb⟩ := hrel
    have HB := Lib.hid hb
    have HLE := Lib.hid hle
    have HJ := Lib.hid hj
    rw [HN.out] at hj
    obtain ⟨lj, hlj⟩ : ∃ lj, l0 - ansSum ((ls.take j).map AnsA.p) = lj := ⟨_, rfl⟩
    have HLJ := Lib.hid hlj
    rw [hlj]
    have hlj0 : (0 : Int) ≤ (lj : Int) := by omega
    clear hb hle hlj
    by_cases hlt : j < n
    · obtain ⟨b, off, tk, ba, ro, a0, c0, rfl, hbk, hx, q0, q1, q2, f0⟩ := (H.out.kept HB.out).one hlt
      have HX := Lib.hid hx
      have hst := ansSum_take hx
      dsimp only at hst
      have htl := ansSum_le (ls := ls) (j + 1)
      obtain ⟨l1, hl1⟩ : ∃ l1, lj - (ro.length) = l1 := ⟨_, rfl⟩
      have hfit : ro.length ≤ lj := by have := HS.out; have := E0.out; have := HLJ.out; have := HLE.out; omega
      have hnew : l1 = l0 - ansSum ((ls.take (j + 1)).map AnsA.p) := by have := HLJ.out; omega
      have hle2 : ansSum ((ls.take (j + 1)).map AnsA.p) ≤ l0 := by have := HS.out; have := E0.out; omega
      have HL1 := Lib.hid hl1
      have HF := Lib.hid hfit
      have HNW := Lib.hid hnew
      have HLE2 := Lib.hid hle2
      have hl1p : (0 : Int) ≤ (l1 : Int) := by omega
      have hljm : lj ≤ 1048576 := by omega
      clear f0 hx hst htl hl1 hfit hnew hle2
      go_wp2_with fail
      refine (c_szAns tk ba a0 ro.length c0 lj l1 _ HF.out hljm HL1.out).mono ?_
      rintro e w2 ⟨rfl, bl⟩
      have HB2 := Lib.hid (Below.next HB.out bl)
      clear bl
      go_wp2_with fail
      go_roundw
      case rel => exact ⟨j + 1, by have := HN.out; omega, by go_num, HLE2.out, by rw [HNW.out], HB2.out⟩
      case measure => simp [intOf]; omega
    · obtain rfl : j = n := by omega
      have hall : lj = r := by
        have h1 := HLJ.out; have h2 := HN.out; have h3 := HR.out; have h4 := E0.out
        rw [← h2, List.take_length] at h1
        omega
      go_wp2_with fail
      go_ret
      exact ⟨ret_i (by rw [hall]), HB.out⟩
set_option maxRecDepth 20000 in
set_option maxHeartbeats 1000000 in
theorem c_szAnss_no (g : Option Addr) (cap n l : Nat) (ls : List AnsA) (w : World) (h : AnssAt w g n cap ls) (hl : l ≤ 1048576) (hs : l < n + ansSum (ls.map AnsA.p)) :
    Calls Try.prog 20 #[.slice g n cap, .int .i64 l] w fun e w' => e = .returned (.int .i64 (-1)) ∧ Below w.heap.size w w' := by
  have hln : ls.length = n := h.1
  have hnm : n ≤ 9223372036854775807 := by have h1 := h.2.1; have h2 := h.2.2.1; unfold maxLen at h2; omega
  have H := Lib.hid h
  have HS := Lib.hid hs
  have HN := Lib.hid hln
  by_cases hq : n ≤ l
  case neg =>
    have h1 : (l : Int) < (n : Int) := by omega
    clear h hs hln hq
    go_enter Try.func20, Try.ntmps20
    go_wp2
    go_ret
    exact ⟨rfl, Below.refl _ _⟩
  case pos =>
  obtain ⟨l0, e0⟩ : ∃ l0, l - n = l0 := ⟨_, rfl⟩
  have E0 := Lib.hid e0
  have hnl : (n : Int) ≤ (l : Int) := by omega
  have hl0 : l0 ≤ 1048576 := by omega
  have hw : (l : Int) - (n : Int) = (l0 : Int) := by omega
  have HW := Lib.hid hw
  have h0 : (0 : Int) ≤ (l0 : Int) := by omega
  have HS0 := Lib.hid (show l0 < ansSum (ls.map AnsA.p) by omega)
  clear h hs hln e0 hw hq
  go_enter Try.func20, Try.ntmps20
  go_wp2_with fail
  rw [HW.out]
  go_wp2_with fail
  go_loopw [1, 5] (fun lv iv wr => SzAnsRel ls l0 w lv iv wr) (fun _ iv _ => n - (intOf iv).toNat)
  case atStart => exact ⟨0, Nat.zero_le _, rfl, by simp [ansSum], by simp [ansSum], Below.refl _ _⟩
  case round =>
    obtain ⟨j, hj, rfl, hle, rfl, hb⟩ := hrel
    have HB := Lib.hid hb
    have HLE := Lib.hid hle
    have HJ := Lib.hid hj
    rw [HN.out] at hj
    obtain ⟨lj, hlj⟩ : ∃ lj, l0 - ansSum ((ls.take j).map AnsA.p) = lj := ⟨_, rfl⟩
    have HLJ := Lib.hid hlj
    rw [hlj]
    have hlj0 : (0 : Int) ≤ (lj : Int) := by omega
    have hljm : lj ≤ 1048576 := by omega
    clear hb hle hlj
    by_cases hlt : j < n
    · obtain ⟨b, off, tk, ba, ro, a0, c0, rfl, hbk, hx, q0, q1, q2, f0⟩ := (H.out.kept HB.out).one hlt
      have hst := ansSum_take hx
      dsimp only at hst
      have hm0 : ro.length ≤ 9223372036854775807 := by have h1 := f0.1; have h2 := f0.2.1; unfold maxLen at h2; omega
      by_cases hfit : ro.length ≤ lj
      · obtain ⟨l1, hl1⟩ : ∃ l1, lj - (ro.length) = l1 := ⟨_, rfl⟩
        have hnew : l1 = l0 - ansSum ((ls.take (j + 1)).map AnsA.p) := by have := HLJ.out; omega
        have hle2 : ansSum ((ls.take (j + 1)).map AnsA.p) ≤ l0 := by have := HLJ.out; have := HLE.out; omega
        have HL1 := Lib.hid hl1
        have HF := Lib.hid hfit
        have HNW := Lib.hid hnew
        have HLE2 := Lib.hid hle2
        have hl1p : (0 : Int) ≤ (l1 : Int) := by omega
        clear f0 hx hst hl1 hfit hnew hle2
        go_wp2_with fail
        refine (c_szAns tk ba a0 ro.length c0 lj l1 _ HF.out hljm HL1.out).mono ?_
        rintro e w2 ⟨rfl, bl⟩
        have HB2 := Lib.hid (Below.next HB.out bl)
        clear bl
        go_wp2_with fail
        go_roundw
        case rel => exact ⟨j + 1, by have := HN.out; omega, by go_num, HLE2.out, by rw [HNW.out], HB2.out⟩
        case measure => simp [intOf]; omega
      · have HF := Lib.hid (show lj < ro.length by omega)
        clear f0 hx hst hfit
        go_wp2_with fail
        refine (c_szAns_no tk ba a0 ro.length c0 lj _ HF.out hljm hm0).mono ?_
        rintro e w2 ⟨rfl, bl⟩
        have HB2 := Lib.hid (Below.next HB.out bl)
        clear bl
        go_wp2_with fail
        go_ret
        exact ⟨rfl, HB2.out⟩
    · exfalso
      obtain rfl : j = n := by omega
      have h1 := HLE.out; have h2 := HN.out; have h3 := HS0.out
      rw [← h2, List.take_length] at h1
      omega
theorem info_ans : (Try.prog.info? 138).map (fun i => (i.zero, i.size, i.bytes)) = some (some (.agg #[.int .i64 0, .int .i64 0, .slice none 0 0]), 3, 40) := by kernel_rfl
def RetAnss (ps : List AnsP) (n : Nat) (w : World) (e : Ending) (w' : World) : Prop :=
  ∃ (g : Nat) (ys : List AnsA), e = .returned (.slice (some ⟨g, 0, none⟩) n n) ∧ ys.length = n ∧ ys.map AnsA.p = ps ∧ OwnL w' w.heap.size [.sl 138 3 n (some ⟨g, 0, none⟩) n (anssC ys)] ∧ (blL [.sl 138 3 n (some ⟨g, 0, none⟩) n (anssC ys)]).Nodup ∧ Below w.heap.size w w'
def ToAnsRel (ls : List AnsA) (n gd : Nat) (w : World) (iv : Value) (wr : World) : Prop :=
  ∃ (k : Nat) (ys : List AnsA) (cur : List Value), k ≤ n ∧ iv = .int .i64 k ∧ ys.length = k ∧ ys.map AnsA.p = (ls.take k).map AnsA.p ∧ wr.ownsRow w.heap.size 138 3 (.slice (some ⟨gd, 0, none⟩) n n) n cur ∧
    cur.take (k * 3) = vs (anssC ys) ∧ OwnL wr (gd + 1) (anssC ys) ∧ (blL (anssC ys)).Nodup ∧ Below w.heap.size w wr
theorem ans_row_kept {w w' : World} {B : Nat} {t : TypeId} {sz n : Nat} {v : Value} {xs : List Value} (h : w.ownsRow B t sz v n xs) (hb : Below w.heap.size w w') : w'.ownsRow B t sz v n xs :=
  h.kept (row := none) ⟨hb.os, hb.tape, hb.output, hb.size, fun j hj _ => hb.block j hj⟩ (by cases v.ownBlock <;> simp)
theorem ans_row_cell {w : World} {B : Nat} {t : TypeId} {sz n cap g : Nat} {xs : List Value} (h : w.ownsRow B t sz (.slice (some ⟨g, 0, none⟩) n cap) n xs) (j : Nat) (hj : j < n * sz) : w.frozen? ⟨g, j, none⟩ = false ∧ ∃ v, w.cell? ⟨g, j, none⟩ = some v := by
  refine ⟨h.frozenAt j, ?_⟩
  rw [h.cellAt j hj]
  exact ⟨_, List.getElem?_eq_getElem (by rw [h.1]; exact hj)⟩
theorem ans_store {w : World} {B : Nat} {t : TypeId} {n cap g k : Nat} {xs : List Value} {v0 v1 v2 : Value} (h : w.ownsRow B t 3 (.slice (some ⟨g, 0, none⟩) n cap) n xs) (hk : k < n) :
    ∃ ys, ((((w.setCell ⟨g, k * 3, none⟩ v0).setCell ⟨g, k * 3 + 1, none⟩ v1).setCell ⟨g, k * 3 + 2, none⟩ v2)).ownsRow B t 3 (.slice (some ⟨g, 0, none⟩) n cap) n ys ∧ ys.take ((k + 1) * 3) = xs.take (k * 3) ++ [v0, v1, v2] := by
  have hl := h.1
  have hkn : k * 3 + 3 ≤ n * 3 := by omega
  refine ⟨_, (((h.stored (k * 3) v0).1.stored (k * 3 + 1) v1).1.stored (k * 3 + 2) v2) |>.1, ?_⟩
  rw [show (k + 1) * 3 = k * 3 + 2 + 1 by omega, take_set_succ _ _ _ (by first | (simp; omega) | omega), take_set_succ _ _ _ (by first | (simp; omega) | omega), take_set_succ _ _ _ (by first | (simp; omega) | omega)]
  simp
theorem anssC_snoc (ys : List AnsA) (y : AnsA) : anssC (ys ++ [y]) = anssC ys ++ y.cs := by simp [anssC]
set_option maxRecDepth 20000 in
set_option maxHeartbeats 1000000 in
theorem c_toAnss (g : Option Addr) (cap n : Nat) (ls : List AnsA) (w : World) (h : AnssAt w g n cap ls) (hl : n + ansSum (ls.map AnsA.p) ≤ 1048576) :
    Calls Try.prog 22 #[.slice g n cap] w (RetAnss (ls.map AnsA.p) n w) := by
  have hnm : n ≤ maxLen := by have h1 := h.2.1; have h2 := h.2.2.1; omega
  have hn1 : n ≤ 1048576 := by omega
  obtain ⟨i0, hi, hz0, hz1, hz2⟩ := info_parts info_ans
  have HI := Lib.hid hi
  have HZ0 := Lib.hid hz0
  have HZ1 := Lib.hid hz1
  have HZ2 := Lib.hid hz2
  have H := Lib.hid h
  have HL := Lib.hid hl
  have HM := Lib.hid hnm
  clear h hi hz0 hz1 hz2 hl hnm
  go_enter Try.func22, Try.ntmps22
  go_wp2_with (at_make; refine wpList_make_full _ rfl _ _ 33 rfl w.heap.size 138 i0 (.agg #[.int .i64 0, .int .i64 0, .slice none 0 0]) 3 Try.underlying33 HI.out HZ0.out HZ1.out _ _ _ _ n rfl rfl rfl rfl ?c1 ?c2 ?c3 ?_)
  case c1 => rw [HZ2.out]; omega
  case c2 => exact HM.out
  case c3 => exact Nat.le_refl _
  intro w1 hown hgrow
  have hb1 : Below w.heap.size w w1 := (Below.refl _ _).grown hgrow (Nat.le_refl _) (fun k h => by cases h)
  have HO := Lib.hid hown
  have HB := Lib.hid hb1
  clear hown hb1 hgrow
  go_wp2
  go_loopw [4] (fun iv wr => ToAnsRel ls n w.heap.size w iv wr) (fun iv _ => n - (intOf iv).toNat)
  case atStart => exact ⟨0, [], _, Nat.zero_le _, rfl, rfl, rfl, HO.out, rfl, by simp [anssC, OwnL], by simp [anssC, blL], HB.out⟩
  case round =>
    obtain ⟨k, ys, cur, hk, rfl, hyl, hyp, ho, htk, how, hnd, hb⟩ := hrel
    have HYL := Lib.hid hyl
    have HYP := Lib.hid hyp
    have HO' := Lib.hid ho
    have HT := Lib.hid htk
    have HW := Lib.hid how
    have HND := Lib.hid hnd
    have HB' := Lib.hid hb
    clear hyl hyp ho htk how hnd hb
    by_cases hlt : k < n
    · obtain ⟨b, off, tk, ba, ro, a0, c0, rfl, hbk, hx, q0, q1, q2, f0⟩ := (H.out.kept HB'.out).one hlt
      have hst := ansSum_take hx
      dsimp only at hst
      have htl := ansSum_le (ls := ls) (k + 1)
      have z0 : ro.length ≤ 1048576 := by have := HL.out; omega
      have HF0 := Lib.hid f0
      have Z0 := Lib.hid z0
      have HX := Lib.hid hx
      clear f0 hx hst htl z0
      go_wp2_with fail
      refine (c_toAns tk ba a0 c0 ro _ HF0.out Z0.out).mono ?_
      rintro e w2 ⟨b0, rfl, o0, bl⟩
      have ho2 := ans_row_kept HO'.out bl
      obtain ⟨z0, v0, y0⟩ := ans_row_cell ho2 (k * 3) (by omega)
      obtain ⟨z1, v1, y1⟩ := ans_row_cell ho2 (k * 3 + 1) (by omega)
      obtain ⟨z2, v2, y2⟩ := ans_row_cell ho2 (k * 3 + 2) (by omega)
      have O2 := Lib.hid ho2
      have OO := Lib.hid (AnsA.own_iff (x := ⟨⟨tk, ba, ro⟩, b0, ro.length⟩).2 o0)
      have BL := Lib.hid bl
      clear ho2 o0  bl q0 q1 q2
      go_wp2_with fail
      clear z0 y0 z1 y1 z2 y2
      go_roundw
      case rel =>
        have hlt0 : w.heap.size < wr.heap.size := (HO'.out.lt _ rfl).2
        obtain ⟨cur', hr, ht⟩ := ans_store O2.out hlt (v0 := .int .i64 tk) (v1 := .int .i64 ba) (v2 := .slice b0 ro.length ro.length)
        have how2 : OwnL w2 (w.heap.size + 1) (anssC (ys ++ [⟨⟨tk, ba, ro⟩, b0, ro.length⟩])) := by
          rw [anssC_snoc, OwnL_append]
          exact ⟨OwnL.kept HW.out BL.out, OwnL.base (by omega) _ OO.out⟩
        refine ⟨k + 1, ys ++ [⟨⟨tk, ba, ro⟩, b0, ro.length⟩], cur', by omega, by go_num, by simp [HYL.out], ?_, hr, ?_,
          (((how2.far (p := ⟨w.heap.size, _, none⟩) (by simp) _).far (p := ⟨w.heap.size, _, none⟩) (by simp) _).far (p := ⟨w.heap.size, _, none⟩) (by simp) _), ?_,
          ((((HB'.out.trans (BL.out.mono HB'.out.size)).setCell (p := ⟨w.heap.size, _, none⟩) (Nat.le_refl _) _).setCell (p := ⟨w.heap.size, _, none⟩) (Nat.le_refl _) _).setCell (p := ⟨w.heap.size, _, none⟩) (Nat.le_refl _) _)⟩
        · rw [List.take_add_one, HX.out, List.map_append, List.map_append, HYP.out]
          rfl
        · rw [ht, HT.out, anssC_snoc, vs_append]
          rfl
        · rw [anssC_snoc, blL_append]
          refine List.nodup_append.2 ⟨HND.out, AnsA.nodup , ?_⟩
          intro x hx y hy e
          subst e
          exact apart_new HW.out OO.out x hx hy
      case measure => simp [intOf]; omega
    · obtain rfl : k = n := by omega
      go_wp2
      go_ret
      have ho := HO'.out
      have hcur : cur = vs (anssC ys) := by
        rw [← HT.out, ← ho.1, List.take_length]
      rw [hcur] at ho
      have hlt : w.heap.size < wr.heap.size := (ho.lt _ rfl).2
      refine ⟨w.heap.size, ys, rfl, HYL.out, by rw [HYP.out]; rw [← H.out.1, List.take_length], ?_, ?_, HB'.out⟩
      · simp only [OwnL, Cl.Own, and_true]
        exact ⟨ho, OwnL.base (by omega) _ HW.out⟩
      · simp only [blL, Cl.bl, List.append_nil]
        refine List.nodup_append.2 ⟨by simp [blk], HND.out, ?_⟩
        intro x hx y hy e
        have := (OwnL.lt _ HW.out y hy).1
        simp [blk] at hx
        omega
theorem ans_can_at {ls ls' : List AnsA} {i : Nat} {x y : AnsA} (hp : ls.map (fun x => x.p.can) = ls'.map (fun x => x.p.can)) (hx : ls[i]? = some x) (hy : ls'[i]? = some y) : x.p.can = y.p.can := by
  have h1 : (ls.map (fun x => x.p.can))[i]? = (ls'.map (fun x => x.p.can))[i]? := by rw [hp]
  simpa [hx, hy] using h1
def EqAnssRel (n : Nat) (w : World) (iv : Value) (wr : World) : Prop := ∃ k : Nat, k ≤ n ∧ iv = .int .i64 k ∧ Below w.heap.size w wr
set_option maxRecDepth 20000 in
set_option maxHeartbeats 1000000 in
theorem c_eqAnss (g g' : Option Addr) (cap cap' n : Nat) (ls ls' : List AnsA) (w : World) (h : AnssAt w g n cap ls) (h' : AnssAt w g' n cap' ls') (hp : ls.map (fun x => x.p.can) = ls'.map (fun x => x.p.can)) :
    Calls Try.prog 25 #[.slice g n cap, .slice g' n cap'] w fun e w' => e = .returned (.bool true) ∧ Below w.heap.size w w' := by
  have hnm : n ≤ 9223372036854775807 := by have h1 := h.2.1; have h2 := h.2.2.1; unfold maxLen at h2; omega
  have H := Lib.hid h
  have H' := Lib.hid h'
  have HP := Lib.hid hp
  clear h h' hp
  go_enter Try.func25, Try.ntmps25
  go_wp2
  go_loopw [5] (fun iv wr => EqAnssRel n w iv wr) (fun iv _ => n - (intOf iv).toNat)
  case atStart => exact ⟨0, Nat.zero_le _, rfl, Below.refl _ _⟩
  case round =>
    obtain ⟨k, hk, rfl, hb⟩ := hrel
    have HB := Lib.hid hb
    clear hb
    by_cases hlt : k < n
    · obtain ⟨b, off, tk, ba, ro, a0, c0, rfl, hbk, hx, q0, q1, q2, f0⟩ := (H.out.kept HB.out).one hlt
      obtain ⟨b', off', tk', ba', ro', a0', c0', rfl, hbk', hx', q0', q1', q2', f0'⟩ := (H'.out.kept HB.out).one hlt
      have hc := ans_can_at HP.out hx hx'
      simp only [AnsP.can, AnsP.mk.injEq] at hc
      obtain ⟨rfl, rfl, hc0⟩ := hc
      have HF0 := Lib.hid f0
      have HF0' := Lib.hid f0'
      have HC0 := Lib.hid hc0
      clear f0 f0' hc0 hx hx'
      have hlt' : (k : Int) < (n : Int) := by omega
      have hk0 : (0 : Int) ≤ (k : Int) := by omega
      have BD := Lib.hid ((Below.refl wr.heap.size wr).drew)
      go_wp2_with fail
      go_region_held3 (fun w' => w'.cell? ⟨b, off + k * 3, none⟩ = some (.int .i64 tk) ∧ w'.cell? ⟨b, off + k * 3 + 1, none⟩ = some (.int .i64 ba) ∧ w'.cell? ⟨b, off + k * 3 + 2, none⟩ = some (.slice a0 ro.length c0) ∧ w'.cell? ⟨b', off' + k * 3, none⟩ = some (.int .i64 tk) ∧ w'.cell? ⟨b', off' + k * 3 + 1, none⟩ = some (.int .i64 ba) ∧ w'.cell? ⟨b', off' + k * 3 + 2, none⟩ = some (.slice a0' ro'.length c0')) (go_keep)
        (first
          | (go_at_call 97
             refine (c_eqAns tk ba a0 a0' c0 c0' ro ro' _ (HF0.out.kept BD.out) (HF0'.out.kept BD.out) HC0.out).mono ?_
             rintro e w2 ⟨rfl, bl⟩
             have HB2 := Lib.hid (HB.out.drew.trans (bl.mono HB.out.size))
             have r0 := (bl.cell (p := ⟨b, off + k * 3, none⟩) hbk).trans q0
             have r0' := (bl.cell (p := ⟨b', off' + k * 3, none⟩) hbk').trans q0'
             have r1 := (bl.cell (p := ⟨b, off + k * 3 + 1, none⟩) hbk).trans q1
             have r1' := (bl.cell (p := ⟨b', off' + k * 3 + 1, none⟩) hbk').trans q1'
             have r2 := (bl.cell (p := ⟨b, off + k * 3 + 2, none⟩) hbk).trans q2
             have r2' := (bl.cell (p := ⟨b', off' + k * 3 + 2, none⟩) hbk').trans q2'
             clear bl))
      all_goals
        go_wp2_with fail
        go_roundw
        case rel => exact ⟨k + 1, by omega, by go_num, HB2.out⟩
        case measure => simp [intOf]; omega
    · obtain rfl : k = n := by omega
      go_wp2
      go_ret
      exact ⟨rfl, HB.out⟩
end Go.Proofs.Ytnkmgeiehhonkaa
