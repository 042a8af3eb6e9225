/-
  Words for lists of Tensor: sizes, copies, comparing, marking and looking again. Conditions: the cells can be read.
-/
import Derived.Test.YtappcbijhfghlaaTn
namespace Go.Proofs.Ytappcbijhfghlaa
open Go.RowKit
set_option linter.unusedVariables false

/-- the cells of a list -/
def tnsC (ls : List TnA) : List Cl := ls.flatMap TnA.cs
def tnSum (ps : List TnP) : Nat := (ps.map TnP.n).sum
theorem tnsC_length (ls : List TnA) : (tnsC ls).length = ls.length * 3 := by
  induction ls with
  | nil => rfl
  | cons l ls ih => simp only [tnsC, List.flatMap_cons, List.length_append, List.length_cons, TnA.cs_len] at ih ⊢; omega
theorem tnsC_get (ls : List TnA) (i : Nat) (x : TnA) (h : ls[i]? = some x) (j : Nat) (hj : j < 3) : (tnsC ls)[i * 3 + j]? = x.cs[j]? := by
  induction ls generalizing i with
  | nil => simp at h
  | cons l ls ih =>
    simp only [tnsC, List.flatMap_cons] at ih ⊢
    cases i with
    | zero =>
      simp only [List.getElem?_cons_zero, Option.some.injEq] at h
      subst h
      rw [Nat.zero_mul, Nat.zero_add, List.getElem?_append_left (by rw [TnA.cs_len]; exact hj)]
    | succ i =>
      simp only [List.getElem?_cons_succ] at h
      rw [List.getElem?_append_right (by rw [TnA.cs_len]; omega), TnA.cs_len, show (i + 1) * 3 + j - 3 = i * 3 + j by omega]
      exact ih i h
def TnsAt (w : World) (g : Option Addr) (n cap : Nat) (ls : List TnA) : Prop :=
  ls.length = n ∧ n ≤ cap ∧ cap ≤ maxLen ∧ AtL w (tnsC ls) ∧ (n = 0 ∨ ∃ b off, g = some ⟨b, off, none⟩ ∧ b < w.heap.size ∧ ∀ i, i < n * 3 → w.cell? ⟨b, off + i, none⟩ = (vs (tnsC ls))[i]?)
theorem tnsAt_cl {w : World} {t : TypeId} {g : Option Addr} {c : Nat} {ls : List TnA} : (Cl.sl t 3 ls.length g c (tnsC ls)).At w ↔ TnsAt w g ls.length c ls := by
  simp only [Cl.At, TnsAt, tnsC_length, true_and]
  constructor
  · rintro ⟨⟨h1, h2, h3⟩, h4⟩; exact ⟨h1, h2, h4, h3⟩
  · rintro ⟨h1, h2, h4, h3⟩; exact ⟨⟨h1, h2, h3⟩, h4⟩
theorem tnsAt_own {w : World} {B : Nat} {t : TypeId} {g : Option Addr} {n c : Nat} {ys : List TnA} (hl : ys.length = n) (h : OwnL w B [.sl t 3 n g c (tnsC ys)]) : TnsAt w g n c ys := by
  subst hl
  exact tnsAt_cl.1 ((OwnL.at _ h).1)
theorem tn_can_of {xs ys : List TnA} (h : xs.map TnA.p = ys.map TnA.p) : xs.map (fun x => x.p.can) = ys.map (fun x => x.p.can) := by
  have h1 : (xs.map TnA.p).map TnP.can = (ys.map TnA.p).map TnP.can := by rw [h]
  simpa [List.map_map, Function.comp_def] using h1
theorem TnsAt.kept {w w' : World} {g : Option Addr} {n cap : Nat} {ls : List TnA} (h : TnsAt w g n cap ls) (hb : Below w.heap.size w w') : TnsAt w' g n cap ls := by
  obtain ⟨rfl, r⟩ := h
  have h : TnsAt w g ls.length cap ls := ⟨rfl, r⟩
  exact tnsAt_cl.1 (Cl.At.kept hb _ (tnsAt_cl (t := 0).2 h))
theorem TnsAt.one {w : World} {g : Option Addr} {n cap : Nat} {ls : List TnA} (h : TnsAt w g n cap ls) {i : Nat} (hi : i < n) : ∃ (b off : Nat) (ro : Int) (co : Int) (da : List Nat) (a0 : Option Addr) (c0 : Nat), g = some ⟨b, off, none⟩ ∧ b < w.heap.size ∧ ls[i]? = some ⟨⟨ro, co, da⟩, a0, c0⟩ ∧
    w.cell? ⟨b, off + i * 3, none⟩ = some (.int .i64 ro) ∧ w.cell? ⟨b, off + i * 3 + 1, none⟩ = some (.int .i64 co) ∧ w.cell? ⟨b, off + i * 3 + 2, none⟩ = some (.slice a0 da.length c0) ∧
    IsFloats .f32 w a0 da.length c0 da := by
  obtain ⟨hl, _, _, ha, hc⟩ := h
  have hx : ls[i]? = some ls[i] := List.getElem?_eq_getElem (by omega)
  obtain ⟨x, hx'⟩ : ∃ x, ls[i] = x := ⟨_, rfl⟩
  rw [hx'] at hx
  rcases hc with h0 | ⟨b, off, rfl, hb, hc⟩
  · omega
  · have hcell : ∀ j, j < 3 → w.cell? ⟨b, off + i * 3 + j, none⟩ = (vs x.cs)[j]? := by
      intro j hj
      have h1 := hc (i * 3 + j) (by omega)
      rw [← Nat.add_assoc] at h1
      rw [h1]
      simp only [vs, List.getElem?_map, tnsC_get ls i x hx j hj]
    have hat : AtL w x.cs := by
      rw [AtL_iff] at ha ⊢
      intro c hcm
      exact ha c (List.mem_flatMap.2 ⟨x, List.mem_of_getElem? hx, hcm⟩)
    rw [TnA.at_iff] at hat
    obtain ⟨⟨ro, co, da⟩, a0, c0⟩ := x
    exact ⟨b, off, ro, co, da, a0, c0, rfl, hb, hx, hcell 0 (by omega), hcell 1 (by omega), hcell 2 (by omega), hat⟩
theorem TnsAt.floats {w : World} {g : Option Addr} {n cap : Nat} {ls : List TnA} (h : TnsAt w g n cap ls) {i : Nat} {x : TnA} (hx : ls[i]? = some x) : IsFloats .f32 w x.a0 x.p.da.length x.c0 x.p.da := by
  have ha := h.2.2.2.1
  rw [AtL_iff] at ha
  exact TnA.at_iff.1 (AtL_iff.2 fun c hc => ha c (List.mem_flatMap.2 ⟨x, List.mem_of_getElem? hx, hc⟩))
theorem tnSum_append (a b : List TnP) : tnSum (a ++ b) = tnSum a + tnSum b := by simp [tnSum]
theorem tnSum_take {ls : List TnA} {i : Nat} {x : TnA} (h : ls[i]? = some x) : tnSum ((ls.take (i + 1)).map TnA.p) = tnSum ((ls.take i).map TnA.p) + (x.p.da.length) := by
  rw [List.take_add_one, h, List.map_append, tnSum_append]
  simp [tnSum, TnP.n]
theorem tnSum_le {ls : List TnA} (i : Nat) : tnSum ((ls.take i).map TnA.p) ≤ tnSum (ls.map TnA.p) := by
  have h : ls.map TnA.p = (ls.take i).map TnA.p ++ (ls.drop i).map TnA.p := by rw [← List.map_append, List.take_append_drop]
  rw [h, tnSum_append]
  omega
set_option maxRecDepth 100000 in
open Go.ChangeShapes Go.WideShapes Go.Deep in
theorem open_Tns {H : Type} {enc : TypeId × Value → H} {W : World} {base b0 : Nat} {re : Reach} {held : Bool} {v : Value} {d : DataW H} {p : List MemPlace}
    (hv : Value.okWide Try.prog W re b0 22 v) (h : DataW.Trod enc Try.prog W base (fun _ => true) held 22 v d p) :
    ∃ (g : Option Addr) (c : Nat) (ls : List TnA), v = .slice g ls.length c ∧ TnsAt W g ls.length c ls := by
  obtain ⟨a, len, cap, rfl⟩ := okWide_slice Try.underlying22 hv
  obtain ⟨fuel, hf⟩ := h
  obtain ⟨l, e, ha, ht⟩ := opened 4 _ _ _ _ _ (show tyOf Try.prog 4 22 = some [.sl 75 3 [.int, .int, .sl 104 1 [.f32]]] by kernel_rfl) hf
  simp only [typedL, Cl.typed.eq_4] at ht
  obtain ⟨c0, l0, rfl, ⟨g, cp, ls, rfl, hl⟩, rfl⟩ := ht
  obtain ⟨rs, e1, e2⟩ := typed_list TnA.cs (fun l h => TnA.typed h) ls hl
  rw [e1, ← e2] at ha e
  simp only [Value.cells, vs, List.map_cons, List.map_nil, Cl.v, List.cons.injEq, Value.slice.injEq, and_true] at e
  obtain ⟨rfl, rfl, rfl⟩ := e
  exact ⟨_, _, rs, rfl, tnsAt_cl.1 (by simpa [AtL, tnsC] using ha)⟩
def SzTnRel (ls : List TnA) (l : Nat) (w : World) (lv iv : Value) (wr : World) : Prop :=
  ∃ j : Nat, j ≤ ls.length ∧ iv = .int .i64 j ∧ tnSum ((ls.take j).map TnA.p) ≤ l ∧ lv = .int .i64 ((l - tnSum ((ls.take j).map TnA.p) : Nat) : Int) ∧ Below w.heap.size w wr
set_option maxRecDepth 20000 in
set_option maxHeartbeats 1000000 in
theorem c_szTns (g : Option Addr) (cap n l r : Nat) (ls : List TnA) (w : World) (h : TnsAt w g n cap ls) (hl : l ≤ 1048576) (hs : n + tnSum (ls.map TnA.p) ≤ l) (hr : l - (n + tnSum (ls.map TnA.p)) = r) :
    Calls Try.prog 15 #[.slice g n cap, .int .i64 l] w fun e w' => e = .returned (.int .i64 (r : Int)) ∧ Below w.heap.size w w' := by
  have hln : ls.length = n := h.1
  have H := Lib.hid h
  have HS := Lib.hid hs
  have HR := Lib.hid hr
  have HN := Lib.hid hln
  obtain ⟨l0, e0⟩ : ∃ l0, l - n = l0 := ⟨_, rfl⟩
  have E0 := Lib.hid e0
  have hnl : (n : Int) ≤ (l : Int) := by omega
  have hl0 : l0 ≤ 1048576 := by omega
  have hw : (l : Int) - (n : Int) = (l0 : Int) := by omega
  have HW := Lib.hid hw
  have h0 : (0 : Int) ≤ (l0 : Int) := by omega
  clear h hs hr hln e0 hw
  go_enter Try.func15, Try.ntmps15
  go_wp2_with fail
  rw [HW.out]
  go_wp2_with fail
  go_loopw [1, 5] (fun lv iv wr => SzTnRel ls l0 w lv iv wr) (fun _ iv _ => n - (intOf iv).toNat)
  case atStart => exact ⟨0, Nat.zero_le _, rfl, by simp [tnSum], by simp [tnSum], Below.refl _ _⟩
  case round =>
    obtain ⟨j, hj, rfl, hle, rfl, hb⟩ := hrel
    have HB := Lib.hid hb
    have HLE := Lib.hid hle
    have HJ := Lib.hid hj
    rw [HN.out] at hj
    obtain ⟨lj, hlj⟩ : ∃ lj, l0 - tnSum ((ls.take j).map TnA.p) = lj := ⟨_, rfl⟩
    have HLJ := Lib.hid hlj
    rw [hlj]
    have hlj0 : (0 : Int) ≤ (lj : Int) := by omega
    clear hb hle hlj
    by_cases hlt : j < n
    · obtain ⟨b, off, ro, co, da, a0, c0, rfl, hbk, hx, q0, q1, q2, f0⟩ := (H.out.kept HB.out).one hlt
      have HX := Lib.hid hx
      have hst := tnSum_take hx
      dsimp only at hst
      have htl := tnSum_le (ls := ls) (j + 1)
      obtain ⟨l1, hl1⟩ : ∃ l1, lj - (da.length) = l1 := ⟨_, rfl⟩
      have hfit : da.length ≤ lj := by have := HS.out; have := E0.out; have := HLJ.out; have := HLE.out; omega
      have hnew : l1 = l0 - tnSum ((ls.take (j + 1)).map TnA.p) := by have := HLJ.out; omega
      have hle2 : tnSum ((ls.take (j + 1)).map TnA.p) ≤ l0 := by have := HS.out; have := E0.out; omega
      have HL1 := Lib.hid hl1
      have HF := Lib.hid hfit
      have HNW := Lib.hid hnew
      have HLE2 := Lib.hid hle2
      have hl1p : (0 : Int) ≤ (l1 : Int) := by omega
      have hljm : lj ≤ 1048576 := by omega
      clear f0 hx hst htl hl1 hfit hnew hle2
      go_wp2_with fail
      refine (c_szTn ro co a0 da.length c0 lj l1 _ HF.out hljm HL1.out).mono ?_
      rintro e w2 ⟨rfl, bl⟩
      have HB2 := Lib.hid (Below.next HB.out bl)
      clear bl
      go_wp2_with fail
      go_roundw
      case rel => exact ⟨j + 1, by have := HN.out; omega, by go_num, HLE2.out, by rw [HNW.out], HB2.out⟩
      case measure => simp [intOf]; omega
    · obtain rfl : j = n := by omega
      have hall : lj = r := by
        have h1 := HLJ.out; have h2 := HN.out; have h3 := HR.out; have h4 := E0.out
        rw [← h2, List.take_length] at h1
        omega
      go_wp2_with fail
      go_ret
      exact ⟨ret_i (by rw [hall]), HB.out⟩
set_option maxRecDepth 20000 in
set_option maxHeartbeats 1000000 in
theorem c_szTns_no (g : Option Addr) (cap n l : Nat) (ls : List TnA) (w : World) (h : TnsAt w g n cap ls) (hl : l ≤ 1048576) (hs : l < n + tnSum (ls.map TnA.p)) :
    Calls Try.prog 15 #[.slice g n cap, .int .i64 l] w fun e w' => e = .returned (.int .i64 (-1)) ∧ Below w.heap.size w w' := by
  have hln : ls.length = n := h.1
  have hnm : n ≤ 9223372036854775807 := by have h1 := h.2.1; have h2 := h.2.2.1; unfold maxLen at h2; omega
  have H := Lib.hid h
  have HS := Lib.hid hs
  have HN := Lib.hid hln
  by_cases hq : n ≤ l
  case neg =>
    have h1 : (l : Int) < (n : Int) := by omega
    clear h hs hln hq
    go_enter Try.func15, Try.ntmps15
    go_wp2
    go_ret
    exact ⟨rfl, Below.refl _ _⟩
  case pos =>
  obtain ⟨l0, e0⟩ : ∃ l0, l - n = l0 := ⟨_, rfl⟩
  have E0 := Lib.hid e0
  have hnl : (n : Int) ≤ (l : Int) := by omega
  have hl0 : l0 ≤ 1048576 := by omega
  have hw : (l : Int) - (n : Int) = (l0 : Int) := by omega
  have HW := Lib.hid hw
  have h0 : (0 : Int) ≤ (l0 : Int) := by omega
  have HS0 := Lib.hid (show l0 < tnSum (ls.map TnA.p) by omega)
  clear h hs hln e0 hw hq
  go_enter Try.func15, Try.ntmps15
  go_wp2_with fail
  rw [HW.out]
  go_wp2_with fail
  go_loopw [1, 5] (fun lv iv wr => SzTnRel ls l0 w lv iv wr) (fun _ iv _ => n - (intOf iv).toNat)
  case atStart => exact ⟨0, Nat.zero_le _, rfl, by simp [tnSum], by simp [tnSum], Below.refl _ _⟩
  case round =>
    obtain ⟨j, hj, rfl, hle, rfl, hb⟩ := hrel
    have HB := Lib.hid hb
    have HLE := Lib.hid hle
    have HJ := Lib.hid hj
    rw [HN.out] at hj
    obtain ⟨lj, hlj⟩ : ∃ lj, l0 - tnSum ((ls.take j).map TnA.p) = lj := ⟨_, rfl⟩
    have HLJ := Lib.hid hlj
    rw [hlj]
    have hlj0 : (0 : Int) ≤ (lj : Int) := by omega
    have hljm : lj ≤ 1048576 := by omega
    clear hb hle hlj
    by_cases hlt : j < n
    · obtain ⟨b, off, ro, co, da, a0, c0, rfl, hbk, hx, q0, q1, q2, f0⟩ := (H.out.kept HB.out).one hlt
      have hst := tnSum_take hx
      dsimp only at hst
      have hm0 : da.length ≤ 9223372036854775807 := by have h1 := f0.1; have h2 := f0.2.1; unfold maxLen at h2; omega
      by_cases hfit : da.length ≤ lj
      · obtain ⟨l1, hl1⟩ : ∃ l1, lj - (da.length) = l1 := ⟨_, rfl⟩
        have hnew : l1 = l0 - tnSum ((ls.take (j + 1)).map TnA.p) := by have := HLJ.out; omega
        have hle2 : tnSum ((ls.take (j + 1)).map TnA.p) ≤ l0 := by have := HLJ.out; have := HLE.out; omega
        have HL1 := Lib.hid hl1
        have HF := Lib.hid hfit
        have HNW := Lib.hid hnew
        have HLE2 := Lib.hid hle2
        have hl1p : (0 : Int) ≤ (l1 : Int) := by omega
        clear f0 hx hst hl1 hfit hnew hle2
        go_wp2_with fail
        refine (c_szTn ro co a0 da.length c0 lj l1 _ HF.out hljm HL1.out).mono ?_
        rintro e w2 ⟨rfl, bl⟩
        have HB2 := Lib.hid (Below.next HB.out bl)
        clear bl
        go_wp2_with fail
        go_roundw
        case rel => exact ⟨j + 1, by have := HN.out; omega, by go_num, HLE2.out, by rw [HNW.out], HB2.out⟩
        case measure => simp [intOf]; omega
      · have HF := Lib.hid (show lj < da.length by omega)
        clear f0 hx hst hfit
        go_wp2_with fail
        refine (c_szTn_no ro co a0 da.length c0 lj _ HF.out hljm hm0).mono ?_
        rintro e w2 ⟨rfl, bl⟩
        have HB2 := Lib.hid (Below.next HB.out bl)
        clear bl
        go_wp2_with fail
        go_ret
        exact ⟨rfl, HB2.out⟩
    · exfalso
      obtain rfl : j = n := by omega
      have h1 := HLE.out; have h2 := HN.out; have h3 := HS0.out
      rw [← h2, List.take_length] at h1
      omega
theorem info_tn : (Try.prog.info? 26).map (fun i => (i.zero, i.size, i.bytes)) = some (some (.agg #[.int .i64 0, .int .i64 0, .slice none 0 0]), 3, 40) := by kernel_rfl
def RetTns (ps : List TnP) (n : Nat) (w : World) (e : Ending) (w' : World) : Prop :=
  ∃ (g : Nat) (ys : List TnA), e = .returned (.slice (some ⟨g, 0, none⟩) n n) ∧ ys.length = n ∧ ys.map TnA.p = ps ∧ OwnL w' w.heap.size [.sl 26 3 n (some ⟨g, 0, none⟩) n (tnsC ys)] ∧ (blL [.sl 26 3 n (some ⟨g, 0, none⟩) n (tnsC ys)]).Nodup ∧ Below w.heap.size w w'
def ToTnRel (ls : List TnA) (n gd : Nat) (w : World) (iv : Value) (wr : World) : Prop :=
  ∃ (k : Nat) (ys : List TnA) (cur : List Value), k ≤ n ∧ iv = .int .i64 k ∧ ys.length = k ∧ ys.map TnA.p = (ls.take k).map TnA.p ∧ wr.ownsRow w.heap.size 26 3 (.slice (some ⟨gd, 0, none⟩) n n) n cur ∧
    cur.take (k * 3) = vs (tnsC ys) ∧ OwnL wr (gd + 1) (tnsC ys) ∧ (blL (tnsC ys)).Nodup ∧ Below w.heap.size w wr
theorem tn_row_kept {w w' : World} {B : Nat} {t : TypeId} {sz n : Nat} {v : Value} {xs : List Value} (h : w.ownsRow B t sz v n xs) (hb : Below w.heap.size w w') : w'.ownsRow B t sz v n xs :=
  h.kept (row := none) ⟨hb.os, hb.tape, hb.output, hb.size, fun j hj _ => hb.block j hj⟩ (by cases v.ownBlock <;> simp)
theorem tn_row_cell {w : World} {B : Nat} {t : TypeId} {sz n cap g : Nat} {xs : List Value} (h : w.ownsRow B t sz (.slice (some ⟨g, 0, none⟩) n cap) n xs) (j : Nat) (hj : j < n * sz) : w.frozen? ⟨g, j, none⟩ = false ∧ ∃ v, w.cell? ⟨g, j, none⟩ = some v := by
  refine ⟨h.frozenAt j, ?_⟩
  rw [h.cellAt j hj]
  exact ⟨_, List.getElem?_eq_getElem (by rw [h.1]; exact hj)⟩
theorem tn_store {w : World} {B : Nat} {t : TypeId} {n cap g k : Nat} {xs : List Value} {v0 v1 v2 : Value} (h : w.ownsRow B t 3 (.slice (some ⟨g, 0, none⟩) n cap) n xs) (hk : k < n) :
    ∃ ys, ((((w.setCell ⟨g, k * 3, none⟩ v0).setCell ⟨g, k * 3 + 1, none⟩ v1).setCell ⟨g, k * 3 + 2, none⟩ v2)).ownsRow B t 3 (.slice (some ⟨g, 0, none⟩) n cap) n ys ∧ ys.take ((k + 1) * 3) = xs.take (k * 3) ++ [v0, v1, v2] := by
  have hl := h.1
  have hkn : k * 3 + 3 ≤ n * 3 := by omega
  refine ⟨_, (((h.stored (k * 3) v0).1.stored (k * 3 + 1) v1).1.stored (k * 3 + 2) v2) |>.1, ?_⟩
  rw [show (k + 1) * 3 = k * 3 + 2 + 1 by omega, take_set_succ _ _ _ (by first | (simp; omega) | omega), take_set_succ _ _ _ (by first | (simp; omega) | omega), take_set_succ _ _ _ (by first | (simp; omega) | omega)]
  simp
theorem tnsC_snoc (ys : List TnA) (y : TnA) : tnsC (ys ++ [y]) = tnsC ys ++ y.cs := by simp [tnsC]
set_option maxRecDepth 20000 in
set_option maxHeartbeats 1000000 in
theorem c_toTns (g : Option Addr) (cap n : Nat) (ls : List TnA) (w : World) (h : TnsAt w g n cap ls) (hl : n + tnSum (ls.map TnA.p) ≤ 1048576) :
    Calls Try.prog 17 #[.slice g n cap] w (RetTns (ls.map TnA.p) n w) := by
  have hnm : n ≤ maxLen := by have h1 := h.2.1; have h2 := h.2.2.1; omega
  have hn1 : n ≤ 1048576 := by omega
  obtain ⟨i0, hi, hz0, hz1, hz2⟩ := info_parts info_tn
  have HI := Lib.hid hi
  have HZ0 := Lib.hid hz0
  have HZ1 := Lib.hid hz1
  have HZ2 := Lib.hid hz2
  have H := Lib.hid h
  have HL := Lib.hid hl
  have HM := Lib.hid hnm
  clear h hi hz0 hz1 hz2 hl hnm
  go_enter Try.func17, Try.ntmps17
  go_wp2_with (at_make; refine wpList_make_full _ rfl _ _ 29 rfl w.heap.size 26 i0 (.agg #[.int .i64 0, .int .i64 0, .slice none 0 0]) 3 Try.underlying29 HI.out HZ0.out HZ1.out _ _ _ _ n rfl rfl rfl rfl ?c1 ?c2 ?c3 ?_)
  case c1 => rw [HZ2.out]; omega
  case c2 => exact HM.out
  case c3 => exact Nat.le_refl _
  intro w1 hown hgrow
  have hb1 : Below w.heap.size w w1 := (Below.refl _ _).grown hgrow (Nat.le_refl _) (fun k h => by cases h)
  have HO := Lib.hid hown
  have HB := Lib.hid hb1
  clear hown hb1 hgrow
  go_wp2
  go_loopw [4] (fun iv wr => ToTnRel ls n w.heap.size w iv wr) (fun iv _ => n - (intOf iv).toNat)
  case atStart => exact ⟨0, [], _, Nat.zero_le _, rfl, rfl, rfl, HO.out, rfl, by simp [tnsC, OwnL], by simp [tnsC, blL], HB.out⟩
  case round =>
    obtain ⟨k, ys, cur, hk, rfl, hyl, hyp, ho, htk, how, hnd, hb⟩ := hrel
    have HYL := Lib.hid hyl
    have HYP := Lib.hid hyp
    have HO' := Lib.hid ho
    have HT := Lib.hid htk
    have HW := Lib.hid how
    have HND := Lib.hid hnd
    have HB' := Lib.hid hb
    clear hyl hyp ho htk how hnd hb
    by_cases hlt : k < n
    · obtain ⟨b, off, ro, co, da, a0, c0, rfl, hbk, hx, q0, q1, q2, f0⟩ := (H.out.kept HB'.out).one hlt
      have hst := tnSum_take hx
      dsimp only at hst
      have htl := tnSum_le (ls := ls) (k + 1)
      have z0 : da.length ≤ 1048576 := by have := HL.out; omega
      have HF0 := Lib.hid f0
      have Z0 := Lib.hid z0
      have HX := Lib.hid hx
      clear f0 hx hst htl z0
      go_wp2_with fail
      refine (c_toTn ro co a0 c0 da _ HF0.out Z0.out).mono ?_
      rintro e w2 ⟨b0, rfl, o0, bl⟩
      have ho2 := tn_row_kept HO'.out bl
      obtain ⟨z0, v0, y0⟩ := tn_row_cell ho2 (k * 3) (by omega)
      obtain ⟨z1, v1, y1⟩ := tn_row_cell ho2 (k * 3 + 1) (by omega)
      obtain ⟨z2, v2, y2⟩ := tn_row_cell ho2 (k * 3 + 2) (by omega)
      have O2 := Lib.hid ho2
      have OO := Lib.hid (TnA.own_iff (x := ⟨⟨ro, co, da⟩, b0, da.length⟩).2 o0)
      have BL := Lib.hid bl
      clear ho2 o0  bl q0 q1 q2
      go_wp2_with fail
      clear z0 y0 z1 y1 z2 y2
      go_roundw
      case rel =>
        have hlt0 : w.heap.size < wr.heap.size := (HO'.out.lt _ rfl).2
        obtain ⟨cur', hr, ht⟩ := tn_store O2.out hlt (v0 := .int .i64 ro) (v1 := .int .i64 co) (v2 := .slice b0 da.length da.length)
        have how2 : OwnL w2 (w.heap.size + 1) (tnsC (ys ++ [⟨⟨ro, co, da⟩, b0, da.length⟩])) := by
          rw [tnsC_snoc, OwnL_append]
          exact ⟨OwnL.kept HW.out BL.out, OwnL.base (by omega) _ OO.out⟩
        refine ⟨k + 1, ys ++ [⟨⟨ro, co, da⟩, b0, da.length⟩], cur', by omega, by go_num, by simp [HYL.out], ?_, hr, ?_,
          (((how2.far (p := ⟨w.heap.size, _, none⟩) (by simp) _).far (p := ⟨w.heap.size, _, none⟩) (by simp) _).far (p := ⟨w.heap.size, _, none⟩) (by simp) _), ?_,
          ((((HB'.out.trans (BL.out.mono HB'.out.size)).setCell (p := ⟨w.heap.size, _, none⟩) (Nat.le_refl _) _).setCell (p := ⟨w.heap.size, _, none⟩) (Nat.le_refl _) _).setCell (p := ⟨w.heap.size, _, none⟩) (Nat.le_refl _) _)⟩
        · rw [List.take_add_one, HX.out, List.map_append, List.map_append, HYP.out]
          rfl
        · rw [ht, HT.out, tnsC_snoc, vs_append]
          rfl
        · rw [tnsC_snoc, blL_append]
          refine List.nodup_append.2 ⟨HND.out, TnA.nodup , ?_⟩
          intro x hx y hy e
          subst e
          exact apart_new HW.out OO.out x hx hy
      case measure => simp [intOf]; omega
    · obtain rfl : k = n := by omega
      go_wp2
      go_ret
      have ho := HO'.out
      have hcur : cur = vs (tnsC ys) := by
        rw [← HT.out, ← ho.1, List.take_length]
      rw [hcur] at ho
      have hlt : w.heap.size < wr.heap.size := (ho.lt _ rfl).2
      refine ⟨w.heap.size, ys, rfl, HYL.out, by rw [HYP.out]; rw [← H.out.1, List.take_length], ?_, ?_, HB'.out⟩
      · simp only [OwnL, Cl.Own, and_true]
        exact ⟨ho, OwnL.base (by omega) _ HW.out⟩
      · simp only [blL, Cl.bl, List.append_nil]
        refine List.nodup_append.2 ⟨by simp [blk], HND.out, ?_⟩
        intro x hx y hy e
        have := (OwnL.lt _ HW.out y hy).1
        simp [blk] at hx
        omega
theorem tn_can_at {ls ls' : List TnA} {i : Nat} {x y : TnA} (hp : ls.map (fun x => x.p.can) = ls'.map (fun x => x.p.can)) (hx : ls[i]? = some x) (hy : ls'[i]? = some y) : x.p.can = y.p.can := by
  have h1 : (ls.map (fun x => x.p.can))[i]? = (ls'.map (fun x => x.p.can))[i]? := by rw [hp]
  simpa [hx, hy] using h1
def EqTnsRel (n : Nat) (w : World) (iv : Value) (wr : World) : Prop := ∃ k : Nat, k ≤ n ∧ iv = .int .i64 k ∧ Below w.heap.size w wr
set_option maxRecDepth 20000 in
set_option maxHeartbeats 1000000 in
theorem c_eqTns (g g' : Option Addr) (cap cap' n : Nat) (ls ls' : List TnA) (w : World) (h : TnsAt w g n cap ls) (h' : TnsAt w g' n cap' ls') (hp : ls.map (fun x => x.p.can) = ls'.map (fun x => x.p.can)) :
    Calls Try.prog 20 #[.slice g n cap, .slice g' n cap'] w fun e w' => e = .returned (.bool true) ∧ Below w.heap.size w w' := by
  have hnm : n ≤ 9223372036854775807 := by have h1 := h.2.1; have h2 := h.2.2.1; unfold maxLen at h2; omega
  have H := Lib.hid h
  have H' := Lib.hid h'
  have HP := Lib.hid hp
  clear h h' hp
  go_enter Try.func20, Try.ntmps20
  go_wp2
  go_loopw [5] (fun iv wr => EqTnsRel n w iv wr) (fun iv _ => n - (intOf iv).toNat)
  case atStart => exact ⟨0, Nat.zero_le _, rfl, Below.refl _ _⟩
  case round =>
    obtain ⟨k, hk, rfl, hb⟩ := hrel
    have HB := Lib.hid hb
    clear hb
    by_cases hlt : k < n
    · obtain ⟨b, off, ro, co, da, a0, c0, rfl, hbk, hx, q0, q1, q2, f0⟩ := (H.out.kept HB.out).one hlt
      obtain ⟨b', off', ro', co', da', a0', c0', rfl, hbk', hx', q0', q1', q2', f0'⟩ := (H'.out.kept HB.out).one hlt
      have hc := tn_can_at HP.out hx hx'
      simp only [TnP.can, TnP.mk.injEq] at hc
      obtain ⟨rfl, rfl, hc0⟩ := hc
      have HF0 := Lib.hid f0
      have HF0' := Lib.hid f0'
      have HC0 := Lib.hid hc0
      clear f0 f0' hc0 hx hx'
      have hlt' : (k : Int) < (n : Int) := by omega
      have hk0 : (0 : Int) ≤ (k : Int) := by omega
      have BD := Lib.hid ((Below.refl wr.heap.size wr).drew)
      go_wp2_with fail
      go_region_held3 (fun w' => w'.cell? ⟨b, off + k * 3, none⟩ = some (.int .i64 ro) ∧ w'.cell? ⟨b, off + k * 3 + 1, none⟩ = some (.int .i64 co) ∧ w'.cell? ⟨b, off + k * 3 + 2, none⟩ = some (.slice a0 da.length c0) ∧ w'.cell? ⟨b', off' + k * 3, none⟩ = some (.int .i64 ro) ∧ w'.cell? ⟨b', off' + k * 3 + 1, none⟩ = some (.int .i64 co) ∧ w'.cell? ⟨b', off' + k * 3 + 2, none⟩ = some (.slice a0' da'.length c0')) (go_keep)
        (first
          | (go_at_call 19
             refine (c_eqTn ro co a0 a0' c0 c0' da da' _ (HF0.out.kept BD.out) (HF0'.out.kept BD.out) HC0.out).mono ?_
             rintro e w2 ⟨rfl, bl⟩
             have HB2 := Lib.hid (HB.out.drew.trans (bl.mono HB.out.size))
             have r0 := (bl.cell (p := ⟨b, off + k * 3, none⟩) hbk).trans q0
             have r0' := (bl.cell (p := ⟨b', off' + k * 3, none⟩) hbk').trans q0'
             have r1 := (bl.cell (p := ⟨b, off + k * 3 + 1, none⟩) hbk).trans q1
             have r1' := (bl.cell (p := ⟨b', off' + k * 3 + 1, none⟩) hbk').trans q1'
             have r2 := (bl.cell (p := ⟨b, off + k * 3 + 2, none⟩) hbk).trans q2
             have r2' := (bl.cell (p := ⟨b', off' + k * 3 + 2, none⟩) hbk').trans q2'
             clear bl))
      all_goals
        go_wp2_with fail
        go_roundw
        case rel => exact ⟨k + 1, by omega, by go_num, HB2.out⟩
        case measure => simp [intOf]; omega
    · obtain rfl : k = n := by omega
      go_wp2
      go_ret
      exact ⟨rfl, HB.out⟩
end Go.Proofs.Ytappcbijhfghlaa
