/-
  Words for models: lists of layers. Conditions: the cells can be read.
-/
import Derived.Test.YtlddonneccihiaaLay
namespace Go.Proofs.Ytlddonneccihiaa
open Go.RowKit
set_option linter.unusedVariables false

/-- the cells of a list of layers -/
def laysC (ls : List LayA) : List Cl := ls.flatMap LayA.cs
def laySum (ps : List LayP) : Nat := (ps.map LayP.n).sum
structure ModA where
  g : Option Addr
  c : Nat
  ls : List LayA
def ModA.cs (x : ModA) : List Cl := [.sl 82 5 x.ls.length x.g x.c (laysC x.ls)]
def ModA.ics (x : ModA) : List Cl := [.sl 93 5 x.ls.length x.g x.c (laysC x.ls)]
def ModA.P (x : ModA) : List LayP := x.ls.map LayA.p
theorem laysC_length (ls : List LayA) : (laysC ls).length = ls.length * 5 := by
  induction ls with
  | nil => rfl
  | cons l ls ih => simp only [laysC, List.flatMap_cons, List.length_append, List.length_cons, LayA.cs_len] at ih ⊢; omega
theorem laysC_get (ls : List LayA) (i : Nat) (x : LayA) (h : ls[i]? = some x) (j : Nat) (hj : j < 5) : (laysC ls)[i * 5 + j]? = x.cs[j]? := by
  induction ls generalizing i with
  | nil => simp at h
  | cons l ls ih =>
    simp only [laysC, List.flatMap_cons] at ih ⊢
    cases i with
    | zero =>
      simp only [List.getElem?_cons_zero, Option.some.injEq] at h
      subst h
      rw [Nat.zero_mul, Nat.zero_add, List.getElem?_append_left (by rw [LayA.cs_len]; exact hj)]
    | succ i =>
      simp only [List.getElem?_cons_succ] at h
      rw [List.getElem?_append_right (by rw [LayA.cs_len]; omega), LayA.cs_len, show (i + 1) * 5 + j - 5 = i * 5 + j by omega]
      exact ih i h
/-- a slice of layers can be read -/
def LaysAt (w : World) (g : Option Addr) (n cap : Nat) (ls : List LayA) : Prop :=
  ls.length = n ∧ n ≤ cap ∧ cap ≤ maxLen ∧ AtL w (laysC ls) ∧ (n = 0 ∨ ∃ b off, g = some ⟨b, off, none⟩ ∧ b < w.heap.size ∧ ∀ i, i < n * 5 → w.cell? ⟨b, off + i, none⟩ = (vs (laysC ls))[i]?)
theorem laysAt_cl {w : World} {t : TypeId} {g : Option Addr} {c : Nat} {ls : List LayA} : (Cl.sl t 5 ls.length g c (laysC ls)).At w ↔ LaysAt w g ls.length c ls := by
  simp only [Cl.At, LaysAt, laysC_length, true_and]
  constructor
  · rintro ⟨⟨h1, h2, h3⟩, h4⟩; exact ⟨h1, h2, h4, h3⟩
  · rintro ⟨h1, h2, h4, h3⟩; exact ⟨⟨h1, h2, h3⟩, h4⟩
theorem ModA.at_iff {w : World} {x : ModA} : AtL w x.cs ↔ LaysAt w x.g x.ls.length x.c x.ls := by
  simp only [ModA.cs, AtL, laysAt_cl, and_true]
theorem ModA.iat_iff {w : World} {x : ModA} : AtL w x.ics ↔ LaysAt w x.g x.ls.length x.c x.ls := by
  simp only [ModA.ics, AtL, laysAt_cl, and_true]
theorem laysAt_own {w : World} {B : Nat} {t : TypeId} {g : Option Addr} {n c : Nat} {ys : List LayA} (hl : ys.length = n) (h : OwnL w B [.sl t 5 n g c (laysC ys)]) : LaysAt w g n c ys := by
  subst hl
  exact laysAt_cl.1 ((OwnL.at _ h).1)
theorem can_of {xs ys : List LayA} (h : xs.map LayA.p = ys.map LayA.p) : xs.map (fun x => x.p.can) = ys.map (fun x => x.p.can) := by
  have h1 : (xs.map LayA.p).map LayP.can = (ys.map LayA.p).map LayP.can := by rw [h]
  simpa [List.map_map, Function.comp_def] using h1
theorem LaysAt.kept {w w' : World} {g : Option Addr} {n cap : Nat} {ls : List LayA} (h : LaysAt w g n cap ls) (hb : Below w.heap.size w w') : LaysAt w' g n cap ls := by
  obtain ⟨rfl, r⟩ := h
  have h : LaysAt w g ls.length cap ls := ⟨rfl, r⟩
  exact laysAt_cl.1 (Cl.At.kept hb _ (laysAt_cl (t := 0).2 h))
/-- one layer of it -/
theorem LaysAt.one {w : World} {g : Option Addr} {n cap : Nat} {ls : List LayA} (h : LaysAt w g n cap ls) {i : Nat} (hi : i < n) : ∃ (b off : Nat) (k ii o : Int) (ws bs : List Nat) (a0 : Option Addr) (c0 : Nat) (a1 : Option Addr) (c1 : Nat), g = some ⟨b, off, none⟩ ∧ b < w.heap.size ∧ ls[i]? = some ⟨⟨k, ii, o, ws, bs⟩, a0, c0, a1, c1⟩ ∧
    w.cell? ⟨b, off + i * 5, none⟩ = some (.int .i64 k) ∧ w.cell? ⟨b, off + i * 5 + 1, none⟩ = some (.int .i64 ii) ∧ w.cell? ⟨b, off + i * 5 + 2, none⟩ = some (.int .i64 o) ∧ w.cell? ⟨b, off + i * 5 + 3, none⟩ = some (.slice a0 ws.length c0) ∧ w.cell? ⟨b, off + i * 5 + 4, none⟩ = some (.slice a1 bs.length c1) ∧
    IsFloats .f32 w a0 ws.length c0 ws ∧ IsFloats .f32 w a1 bs.length c1 bs := by
  obtain ⟨hl, _, _, ha, hc⟩ := h
  have hx : ls[i]? = some ls[i] := List.getElem?_eq_getElem (by omega)
  obtain ⟨x, hx'⟩ : ∃ x, ls[i] = x := ⟨_, rfl⟩
  rw [hx'] at hx
  rcases hc with h0 | ⟨b, off, rfl, hb, hc⟩
  · omega
  · have hcell : ∀ j, j < 5 → w.cell? ⟨b, off + i * 5 + j, none⟩ = (vs x.cs)[j]? := by
      intro j hj
      have h1 := hc (i * 5 + j) (by omega)
      rw [← Nat.add_assoc] at h1
      rw [h1]
      simp only [vs, List.getElem?_map, laysC_get ls i x hx j hj]
    have hat : AtL w x.cs := by
      rw [AtL_iff] at ha ⊢
      intro c hcm
      exact ha c (List.mem_flatMap.2 ⟨x, List.mem_of_getElem? hx, hcm⟩)
    rw [LayA.at_iff] at hat
    obtain ⟨⟨k, ii, o, ws, bs⟩, a0, c0, a1, c1⟩ := x
    exact ⟨b, off, k, ii, o, ws, bs, a0, c0, a1, c1, rfl, hb, hx, hcell 0 (by omega), hcell 1 (by omega), hcell 2 (by omega), hcell 3 (by omega), hcell 4 (by omega), hat.1, hat.2⟩
theorem LaysAt.floats {w : World} {g : Option Addr} {n cap : Nat} {ls : List LayA} (h : LaysAt w g n cap ls) {i : Nat} {x : LayA} (hx : ls[i]? = some x) : IsFloats .f32 w x.a0 x.p.ws.length x.c0 x.p.ws ∧ IsFloats .f32 w x.a1 x.p.bs.length x.c1 x.p.bs := by
  have ha := h.2.2.2.1
  rw [AtL_iff] at ha
  exact LayA.at_iff.1 (AtL_iff.2 fun c hc => ha c (List.mem_flatMap.2 ⟨x, List.mem_of_getElem? hx, hc⟩))
theorem laySum_append (a b : List LayP) : laySum (a ++ b) = laySum a + laySum b := by simp [laySum]
theorem laySum_take {ls : List LayA} {i : Nat} {x : LayA} (h : ls[i]? = some x) : laySum ((ls.take (i + 1)).map LayA.p) = laySum ((ls.take i).map LayA.p) + (x.p.ws.length + x.p.bs.length) := by
  rw [List.take_add_one, h, List.map_append, laySum_append]
  simp [laySum, LayP.n]
theorem laySum_le {ls : List LayA} (i : Nat) : laySum ((ls.take i).map LayA.p) ≤ laySum (ls.map LayA.p) := by
  have h : ls.map LayA.p = (ls.take i).map LayA.p ++ (ls.drop i).map LayA.p := by rw [← List.map_append, List.take_append_drop]
  rw [h, laySum_append]
  omega
def SzRel (ls : List LayA) (l : Nat) (w : World) (lv iv : Value) (wr : World) : Prop :=
  ∃ j : Nat, j ≤ ls.length ∧ iv = .int .i64 j ∧ laySum ((ls.take j).map LayA.p) ≤ l ∧ lv = .int .i64 ((l - laySum ((ls.take j).map LayA.p) : Nat) : Int) ∧ Below w.heap.size w wr
set_option maxHeartbeats 1000000 in
theorem c_szLays (g : Option Addr) (cap n l r : Nat) (ls : List LayA) (w : World) (h : LaysAt w g n cap ls) (hl : l ≤ 1048576) (hs : n + laySum (ls.map LayA.p) ≤ l) (hr : l - (n + laySum (ls.map LayA.p)) = r) :
    Calls Try.prog 50 #[.slice g n cap, .int .i64 l] w fun e w' => e = .returned (.int .i64 (r : Int)) ∧ Below w.heap.size w w' := by
  have hln : ls.length = n := h.1
  have H := Lib.hid h
  have HS := Lib.hid hs
  have HR := Lib.hid hr
  have HN := Lib.hid hln
  obtain ⟨l0, e0⟩ : ∃ l0, l - n = l0 := ⟨_, rfl⟩
  have E0 := Lib.hid e0
  have hnl : (n : Int) ≤ (l : Int) := by omega
  have hl0 : l0 ≤ 1048576 := by omega
  have hw : (l : Int) - (n : Int) = (l0 : Int) := by omega
  have HW := Lib.hid hw
  have h0 : (0 : Int) ≤ (l0 : Int) := by omega
  clear h hs hr hln e0 hw
  go_enter Try.func50, Try.ntmps50
  go_wp2_with fail
  rw [HW.out]
  go_wp2_with fail
  go_loopw [1, 5] (fun lv iv wr => SzRel ls l0 w lv iv wr) (fun _ iv _ => n - (intOf iv).toNat)
  case atStart => exact ⟨0, Nat.zero_le _, rfl, by simp [laySum], by simp [laySum], Below.refl _ _⟩
  case round =>
    obtain ⟨j, hj, rfl, hle, rfl, hb⟩ := hrel
    have HB := Lib.hid hb
    have HLE := Lib.hid hle
    have HJ := Lib.hid hj
    rw [HN.out] at hj
    obtain ⟨lj, hlj⟩ : ∃ lj, l0 - laySum ((ls.take j).map LayA.p) = lj := ⟨_, rfl⟩
    have HLJ := Lib.hid hlj
    rw [hlj]
    have hlj0 : (0 : Int) ≤ (lj : Int) := by omega
    clear hb hle hlj
    by_cases hlt : j < n
    · obtain ⟨b, off, k, i, o, ws, bs, a0, c0, a1, c1, rfl, hbk, hx, q0, q1, q2, q3, q4, f0, f1⟩ := (H.out.kept HB.out).one hlt
      have HX := Lib.hid hx
      have hst := laySum_take hx
      dsimp only at hst
      have htl := laySum_le (ls := ls) (j + 1)
      obtain ⟨l1, hl1⟩ : ∃ l1, lj - (ws.length + bs.length) = l1 := ⟨_, rfl⟩
      have hfit : ws.length + bs.length ≤ lj := by have := HS.out; have := E0.out; have := HLJ.out; have := HLE.out; omega
      have hnew : l1 = l0 - laySum ((ls.take (j + 1)).map LayA.p) := by have := HLJ.out; omega
      have hle2 : laySum ((ls.take (j + 1)).map LayA.p) ≤ l0 := by have := HS.out; have := E0.out; omega
      have HL1 := Lib.hid hl1
      have HF := Lib.hid hfit
      have HNW := Lib.hid hnew
      have HLE2 := Lib.hid hle2
      have hl1p : (0 : Int) ≤ (l1 : Int) := by omega
      have hljm : lj ≤ 1048576 := by omega
      clear f0 f1 hx hst htl hl1 hfit hnew hle2
      go_wp2_with fail
      refine (c_szLay k i o a0 a1 ws.length bs.length c0 c1 lj l1 _ HF.out hljm HL1.out).mono ?_
      rintro e w2 ⟨rfl, bl⟩
      have HB2 := Lib.hid (Below.next HB.out bl)
      clear bl
      go_wp2_with fail
      go_roundw
      case rel => exact ⟨j + 1, by have := HN.out; omega, by go_num, HLE2.out, by rw [HNW.out], HB2.out⟩
      case measure => simp [intOf]; omega
    · obtain rfl : j = n := by omega
      have hall : lj = r := by
        have h1 := HLJ.out; have h2 := HN.out; have h3 := HR.out; have h4 := E0.out
        rw [← h2, List.take_length] at h1
        omega
      go_wp2_with fail
      go_ret
      exact ⟨ret_i (by rw [hall]), HB.out⟩
set_option maxHeartbeats 1000000 in
theorem c_szLays_no (g : Option Addr) (cap n l : Nat) (ls : List LayA) (w : World) (h : LaysAt w g n cap ls) (hl : l ≤ 1048576) (hs : l < n + laySum (ls.map LayA.p)) :
    Calls Try.prog 50 #[.slice g n cap, .int .i64 l] w fun e w' => e = .returned (.int .i64 (-1)) ∧ Below w.heap.size w w' := by
  have hln : ls.length = n := h.1
  have hnm : n ≤ 9223372036854775807 := by have h1 := h.2.1; have h2 := h.2.2.1; unfold maxLen at h2; omega
  have H := Lib.hid h
  have HS := Lib.hid hs
  have HN := Lib.hid hln
  by_cases hq : n ≤ l
  case neg =>
    have h1 : (l : Int) < (n : Int) := by omega
    clear h hs hln hq
    go_enter Try.func50, Try.ntmps50
    go_wp2
    go_ret
    exact ⟨rfl, Below.refl _ _⟩
  case pos =>
  obtain ⟨l0, e0⟩ : ∃ l0, l - n = l0 := ⟨_, rfl⟩
  have E0 := Lib.hid e0
  have hnl : (n : Int) ≤ (l : Int) := by omega
  have hl0 : l0 ≤ 1048576 := by omega
  have hw : (l : Int) - (n : Int) = (l0 : Int) := by omega
  have HW := Lib.hid hw
  have h0 : (0 : Int) ≤ (l0 : Int) := by omega
  have HS0 := Lib.hid (show l0 < laySum (ls.map LayA.p) by omega)
  clear h hs hln e0 hw hq
  go_enter Try.func50, Try.ntmps50
  go_wp2_with fail
  rw [HW.out]
  go_wp2_with fail
  go_loopw [1, 5] (fun lv iv wr => SzRel ls l0 w lv iv wr) (fun _ iv _ => n - (intOf iv).toNat)
  case atStart => exact ⟨0, Nat.zero_le _, rfl, by simp [laySum], by simp [laySum], Below.refl _ _⟩
  case round =>
    obtain ⟨j, hj, rfl, hle, rfl, hb⟩ := hrel
    have HB := Lib.hid hb
    have HLE := Lib.hid hle
    have HJ := Lib.hid hj
    rw [HN.out] at hj
    obtain ⟨lj, hlj⟩ : ∃ lj, l0 - laySum ((ls.take j).map LayA.p) = lj := ⟨_, rfl⟩
    have HLJ := Lib.hid hlj
    rw [hlj]
    have hlj0 : (0 : Int) ≤ (lj : Int) := by omega
    have hljm : lj ≤ 1048576 := by omega
    clear hb hle hlj
    by_cases hlt : j < n
    · obtain ⟨b, off, k, i, o, ws, bs, a0, c0, a1, c1, rfl, hbk, hx, q0, q1, q2, q3, q4, f0, f1⟩ := (H.out.kept HB.out).one hlt
      have hst := laySum_take hx
      dsimp only at hst
      have HF0 := Lib.hid f0
      have HF1 := Lib.hid f1
      have hm0 : ws.length ≤ 9223372036854775807 := by have h1 := f0.1; have h2 := f0.2.1; unfold maxLen at h2; omega
      have hm1 : bs.length ≤ 9223372036854775807 := by have h1 := f1.1; have h2 := f1.2.1; unfold maxLen at h2; omega
      by_cases hfit : ws.length + bs.length ≤ lj
      · obtain ⟨l1, hl1⟩ : ∃ l1, lj - (ws.length + bs.length) = l1 := ⟨_, rfl⟩
        have hnew : l1 = l0 - laySum ((ls.take (j + 1)).map LayA.p) := by have := HLJ.out; omega
        have hle2 : laySum ((ls.take (j + 1)).map LayA.p) ≤ l0 := by have := HLJ.out; have := HLE.out; omega
        have HL1 := Lib.hid hl1
        have HF := Lib.hid hfit
        have HNW := Lib.hid hnew
        have HLE2 := Lib.hid hle2
        have hl1p : (0 : Int) ≤ (l1 : Int) := by omega
        clear f0 f1 hx hst hl1 hfit hnew hle2
        go_wp2_with fail
        refine (c_szLay k i o a0 a1 ws.length bs.length c0 c1 lj l1 _ HF.out hljm HL1.out).mono ?_
        rintro e w2 ⟨rfl, bl⟩
        have HB2 := Lib.hid (Below.next HB.out bl)
        clear bl
        go_wp2_with fail
        go_roundw
        case rel => exact ⟨j + 1, by have := HN.out; omega, by go_num, HLE2.out, by rw [HNW.out], HB2.out⟩
        case measure => simp [intOf]; omega
      · have HF := Lib.hid (show lj < ws.length + bs.length by omega)
        clear f0 f1 hx hst hfit
        go_wp2_with fail
        refine (c_szLay_no k i o a0 a1 ws.length bs.length c0 c1 lj _ HF.out hljm hm0 hm1).mono ?_
        rintro e w2 ⟨rfl, bl⟩
        have HB2 := Lib.hid (Below.next HB.out bl)
        clear bl
        go_wp2_with fail
        go_ret
        exact ⟨rfl, HB2.out⟩
    · exfalso
      obtain rfl : j = n := by omega
      have h1 := HLE.out; have h2 := HN.out; have h3 := HS0.out
      rw [← h2, List.take_length] at h1
      omega
theorem info_lay : (Try.prog.info? 82).map (fun i => (i.zero, i.size, i.bytes)) = some (some (.agg #[.int .i64 0, .int .i64 0, .int .i64 0, .slice none 0 0, .slice none 0 0]), 5, 72) := by kernel_rfl
def RetLays (ps : List LayP) (n : Nat) (w : World) (e : Ending) (w' : World) : Prop :=
  ∃ (g : Nat) (ys : List LayA), e = .returned (.slice (some ⟨g, 0, none⟩) n n) ∧ ys.length = n ∧ ys.map LayA.p = ps ∧ OwnL w' w.heap.size [.sl 82 5 n (some ⟨g, 0, none⟩) n (laysC ys)] ∧ (blL [.sl 82 5 n (some ⟨g, 0, none⟩) n (laysC ys)]).Nodup ∧ Below w.heap.size w w'
def ToRel (ls : List LayA) (n gd : Nat) (w : World) (iv : Value) (wr : World) : Prop :=
  ∃ (k : Nat) (ys : List LayA) (cur : List Value), k ≤ n ∧ iv = .int .i64 k ∧ ys.length = k ∧ ys.map LayA.p = (ls.take k).map LayA.p ∧ wr.ownsRow w.heap.size 82 5 (.slice (some ⟨gd, 0, none⟩) n n) n cur ∧
    cur.take (k * 5) = vs (laysC ys) ∧ OwnL wr (gd + 1) (laysC ys) ∧ (blL (laysC ys)).Nodup ∧ Below w.heap.size w wr
theorem row_kept {w w' : World} {B : Nat} {t : TypeId} {sz n : Nat} {v : Value} {xs : List Value} (h : w.ownsRow B t sz v n xs) (hb : Below w.heap.size w w') : w'.ownsRow B t sz v n xs :=
  h.kept (row := none) ⟨hb.os, hb.tape, hb.output, hb.size, fun j hj _ => hb.block j hj⟩ (by cases v.ownBlock <;> simp)
theorem row_cell {w : World} {B : Nat} {t : TypeId} {sz n cap g : Nat} {xs : List Value} (h : w.ownsRow B t sz (.slice (some ⟨g, 0, none⟩) n cap) n xs) (j : Nat) (hj : j < n * sz) : w.frozen? ⟨g, j, none⟩ = false ∧ ∃ v, w.cell? ⟨g, j, none⟩ = some v := by
  refine ⟨h.frozenAt j, ?_⟩
  rw [h.cellAt j hj]
  exact ⟨_, List.getElem?_eq_getElem (by rw [h.1]; exact hj)⟩
theorem store5 {w : World} {B : Nat} {t : TypeId} {n cap g k : Nat} {xs : List Value} {v0 v1 v2 v3 v4 : Value} (h : w.ownsRow B t 5 (.slice (some ⟨g, 0, none⟩) n cap) n xs) (hk : k < n) :
    ∃ ys, (((((w.setCell ⟨g, k * 5, none⟩ v0).setCell ⟨g, k * 5 + 1, none⟩ v1).setCell ⟨g, k * 5 + 2, none⟩ v2).setCell ⟨g, k * 5 + 3, none⟩ v3).setCell ⟨g, k * 5 + 4, none⟩ v4).ownsRow B t 5 (.slice (some ⟨g, 0, none⟩) n cap) n ys ∧ ys.take ((k + 1) * 5) = xs.take (k * 5) ++ [v0, v1, v2, v3, v4] := by
  have hl := h.1
  have hkn : k * 5 + 5 ≤ n * 5 := by omega
  refine ⟨_, ((((h.stored (k * 5) v0).1.stored (k * 5 + 1) v1).1.stored (k * 5 + 2) v2).1.stored (k * 5 + 3) v3).1.stored (k * 5 + 4) v4 |>.1, ?_⟩
  rw [show (k + 1) * 5 = k * 5 + 4 + 1 by omega, take_set_succ _ _ _ (by simp; omega), take_set_succ _ _ _ (by simp; omega), take_set_succ _ _ _ (by simp; omega), take_set_succ _ _ _ (by simp; omega), take_set_succ _ _ _ (by omega)]
  simp
theorem laysC_snoc (ys : List LayA) (y : LayA) : laysC (ys ++ [y]) = laysC ys ++ y.cs := by simp [laysC]
set_option maxRecDepth 20000 in
set_option maxHeartbeats 1000000 in
theorem c_toLays (g : Option Addr) (cap n : Nat) (ls : List LayA) (w : World) (h : LaysAt w g n cap ls) (hl : n + laySum (ls.map LayA.p) ≤ 1048576) :
    Calls Try.prog 53 #[.slice g n cap] w (RetLays (ls.map LayA.p) n w) := by
  have hnm : n ≤ maxLen := by have h1 := h.2.1; have h2 := h.2.2.1; omega
  have hn1 : n ≤ 1048576 := by omega
  obtain ⟨i0, hi, hz0, hz1, hz2⟩ := info_parts info_lay
  have HI := Lib.hid hi
  have HZ0 := Lib.hid hz0
  have HZ1 := Lib.hid hz1
  have HZ2 := Lib.hid hz2
  have H := Lib.hid h
  have HL := Lib.hid hl
  have HM := Lib.hid hnm
  clear h hi hz0 hz1 hz2 hl hnm
  go_enter Try.func53, Try.ntmps53
  go_wp2_with (at_make; refine wpList_make_full _ rfl _ _ 31 rfl w.heap.size 82 i0 (.agg #[.int .i64 0, .int .i64 0, .int .i64 0, .slice none 0 0, .slice none 0 0]) 5 Try.underlying31 HI.out HZ0.out HZ1.out _ _ _ _ n rfl rfl rfl rfl ?c1 ?c2 ?c3 ?_)
  case c1 => rw [HZ2.out]; omega
  case c2 => exact HM.out
  case c3 => exact Nat.le_refl _
  intro w1 hown hgrow
  have hb1 : Below w.heap.size w w1 := (Below.refl _ _).grown hgrow (Nat.le_refl _) (fun k h => by cases h)
  have HO := Lib.hid hown
  have HB := Lib.hid hb1
  clear hown hb1 hgrow
  go_wp2
  go_loopw [4] (fun iv wr => ToRel ls n w.heap.size w iv wr) (fun iv _ => n - (intOf iv).toNat)
  case atStart => exact ⟨0, [], _, Nat.zero_le _, rfl, rfl, rfl, HO.out, rfl, by simp [laysC, OwnL], by simp [laysC, blL], HB.out⟩
  case round =>
    obtain ⟨k, ys, cur, hk, rfl, hyl, hyp, ho, htk, how, hnd, hb⟩ := hrel
    have HYL := Lib.hid hyl
    have HYP := Lib.hid hyp
    have HO' := Lib.hid ho
    have HT := Lib.hid htk
    have HW := Lib.hid how
    have HND := Lib.hid hnd
    have HB' := Lib.hid hb
    clear hyl hyp ho htk how hnd hb
    by_cases hlt : k < n
    · obtain ⟨b, off, kk, i, o, ws, bs, a0, c0, a1, c1, rfl, hbk, hx, q0, q1, q2, q3, q4, f0, f1⟩ := (H.out.kept HB'.out).one hlt
      have hst := laySum_take hx
      dsimp only at hst
      have htl := laySum_le (ls := ls) (k + 1)
      have z0 : ws.length ≤ 1048576 := by have := HL.out; omega
      have z1 : bs.length ≤ 1048576 := by have := HL.out; omega
      have HX := Lib.hid hx
      have HF0 := Lib.hid f0
      have HF1 := Lib.hid f1
      have Z0 := Lib.hid z0
      have Z1 := Lib.hid z1
      clear f0 f1 hx hst htl z0 z1
      go_wp2_with fail
      refine (c_toLay kk i o a0 a1 c0 c1 ws bs _ HF0.out Z0.out HF1.out Z1.out).mono ?_
      rintro e w2 ⟨b0, b1, rfl, o0, o1, hap, bl⟩
      have ho2 := row_kept HO'.out bl
      obtain ⟨z0, v0, y0⟩ := row_cell ho2 (k * 5) (by omega)
      obtain ⟨z1, v1, y1⟩ := row_cell ho2 (k * 5 + 1) (by omega)
      obtain ⟨z2, v2, y2⟩ := row_cell ho2 (k * 5 + 2) (by omega)
      obtain ⟨z3, v3, y3⟩ := row_cell ho2 (k * 5 + 3) (by omega)
      obtain ⟨z4, v4, y4⟩ := row_cell ho2 (k * 5 + 4) (by omega)
      have O2 := Lib.hid ho2
      have OO := Lib.hid (LayA.own_iff (x := ⟨⟨kk, i, o, ws, bs⟩, b0, ws.length, b1, bs.length⟩).2 ⟨o0, o1⟩)
      have HAP := Lib.hid hap
      have BL := Lib.hid bl
      clear ho2 o0 o1 hap bl q0 q1 q2 q3 q4
      go_wp2_with fail
      clear z0 y0 z1 y1 z2 y2 z3 y3 z4 y4
      go_roundw
      case rel =>
        have hlt0 : w.heap.size < wr.heap.size := (HO'.out.lt _ rfl).2
        obtain ⟨cur', hr, ht⟩ := store5 O2.out hlt (v0 := .int .i64 kk) (v1 := .int .i64 i) (v2 := .int .i64 o) (v3 := .slice b0 ws.length ws.length) (v4 := .slice b1 bs.length bs.length)
        have how2 : OwnL w2 (w.heap.size + 1) (laysC (ys ++ [⟨⟨kk, i, o, ws, bs⟩, b0, ws.length, b1, bs.length⟩])) := by
          rw [laysC_snoc, OwnL_append]
          exact ⟨OwnL.kept HW.out BL.out, OwnL.base (by omega) _ OO.out⟩
        refine ⟨k + 1, ys ++ [⟨⟨kk, i, o, ws, bs⟩, b0, ws.length, b1, bs.length⟩], cur', by omega, by go_num, by simp [HYL.out], ?_, hr, ?_,
          (((((how2.far (p := ⟨w.heap.size, _, none⟩) (by simp) _).far (p := ⟨w.heap.size, _, none⟩) (by simp) _).far (p := ⟨w.heap.size, _, none⟩) (by simp) _).far (p := ⟨w.heap.size, _, none⟩) (by simp) _).far (p := ⟨w.heap.size, _, none⟩) (by simp) _), ?_,
          (((((HB'.out.trans (BL.out.mono HB'.out.size)).setCell (p := ⟨w.heap.size, _, none⟩) (Nat.le_refl _) _).setCell (p := ⟨w.heap.size, _, none⟩) (Nat.le_refl _) _).setCell (p := ⟨w.heap.size, _, none⟩) (Nat.le_refl _) _).setCell (p := ⟨w.heap.size, _, none⟩) (Nat.le_refl _) _).setCell (p := ⟨w.heap.size, _, none⟩) (Nat.le_refl _) _⟩
        · rw [List.take_add_one, HX.out, List.map_append, List.map_append, HYP.out]
          rfl
        · rw [ht, HT.out, laysC_snoc, vs_append]
          rfl
        · rw [laysC_snoc, blL_append]
          refine List.nodup_append.2 ⟨HND.out, LayA.nodup HAP.out, ?_⟩
          intro x hx y hy e
          subst e
          exact apart_new HW.out OO.out x hx hy
      case measure => simp [intOf]; omega
    · obtain rfl : k = n := by omega
      go_wp2
      go_ret
      have ho := HO'.out
      have hcur : cur = vs (laysC ys) := by
        rw [← HT.out, ← ho.1, List.take_length]
      rw [hcur] at ho
      have hlt : w.heap.size < wr.heap.size := (ho.lt _ rfl).2
      refine ⟨w.heap.size, ys, rfl, HYL.out, by rw [HYP.out]; rw [← H.out.1, List.take_length], ?_, ?_, HB'.out⟩
      · simp only [OwnL, Cl.Own, and_true]
        exact ⟨ho, OwnL.base (by omega) _ HW.out⟩
      · simp only [blL, Cl.bl, List.append_nil]
        refine List.nodup_append.2 ⟨by simp [blk], HND.out, ?_⟩
        intro x hx y hy e
        have := (OwnL.lt _ HW.out y hy).1
        simp [blk] at hx
        omega
theorem can_at {ls ls' : List LayA} {i : Nat} {x y : LayA} (hp : ls.map (fun x => x.p.can) = ls'.map (fun x => x.p.can)) (hx : ls[i]? = some x) (hy : ls'[i]? = some y) : x.p.can = y.p.can := by
  have h1 : (ls.map (fun x => x.p.can))[i]? = (ls'.map (fun x => x.p.can))[i]? := by rw [hp]
  simpa [hx, hy] using h1
def EqLaysRel (n : Nat) (w : World) (iv : Value) (wr : World) : Prop := ∃ k : Nat, k ≤ n ∧ iv = .int .i64 k ∧ Below w.heap.size w wr
set_option maxRecDepth 20000 in
set_option maxHeartbeats 1000000 in
theorem c_eqLays (g g' : Option Addr) (cap cap' n : Nat) (ls ls' : List LayA) (w : World) (h : LaysAt w g n cap ls) (h' : LaysAt w g' n cap' ls') (hp : ls.map (fun x => x.p.can) = ls'.map (fun x => x.p.can)) :
    Calls Try.prog 58 #[.slice g n cap, .slice g' n cap'] w fun e w' => e = .returned (.bool true) ∧ Below w.heap.size w w' := by
  have hnm : n ≤ 9223372036854775807 := by have h1 := h.2.1; have h2 := h.2.2.1; unfold maxLen at h2; omega
  have H := Lib.hid h
  have H' := Lib.hid h'
  have HP := Lib.hid hp
  clear h h' hp
  go_enter Try.func58, Try.ntmps58
  go_wp2
  go_loopw [5] (fun iv wr => EqLaysRel n w iv wr) (fun iv _ => n - (intOf iv).toNat)
  case atStart => exact ⟨0, Nat.zero_le _, rfl, Below.refl _ _⟩
  case round =>
    obtain ⟨k, hk, rfl, hb⟩ := hrel
    have HB := Lib.hid hb
    clear hb
    by_cases hlt : k < n
    · obtain ⟨b, off, kk, i, o, ws, bs, a0, c0, a1, c1, rfl, hbk, hx, q0, q1, q2, q3, q4, f0, f1⟩ := (H.out.kept HB.out).one hlt
      obtain ⟨b', off', kk', i', o', ws', bs', a0', c0', a1', c1', rfl, hbk', hx', q0', q1', q2', q3', q4', f0', f1'⟩ := (H'.out.kept HB.out).one hlt
      have hc := can_at HP.out hx hx'
      simp only [LayP.can, LayP.mk.injEq] at hc
      obtain ⟨rfl, rfl, rfl, hc0, hc1⟩ := hc
      have HF0 := Lib.hid f0
      have HF1 := Lib.hid f1
      have HF0' := Lib.hid f0'
      have HF1' := Lib.hid f1'
      have HC0 := Lib.hid hc0
      have HC1 := Lib.hid hc1
      clear f0 f1 f0' f1' hc0 hc1 hx hx'
      have hlt' : (k : Int) < (n : Int) := by omega
      have hk0 : (0 : Int) ≤ (k : Int) := by omega
      have BD := Lib.hid ((Below.refl wr.heap.size wr).drew)
      go_wp2_with fail
      go_region_held3 (fun w' => w'.cell? ⟨b, off + k * 5, none⟩ = some (.int .i64 kk) ∧ w'.cell? ⟨b, off + k * 5 + 1, none⟩ = some (.int .i64 i) ∧ w'.cell? ⟨b, off + k * 5 + 2, none⟩ = some (.int .i64 o) ∧ w'.cell? ⟨b, off + k * 5 + 3, none⟩ = some (.slice a0 ws.length c0) ∧ w'.cell? ⟨b, off + k * 5 + 4, none⟩ = some (.slice a1 bs.length c1) ∧
          w'.cell? ⟨b', off' + k * 5, none⟩ = some (.int .i64 kk) ∧ w'.cell? ⟨b', off' + k * 5 + 1, none⟩ = some (.int .i64 i) ∧ w'.cell? ⟨b', off' + k * 5 + 2, none⟩ = some (.int .i64 o) ∧ w'.cell? ⟨b', off' + k * 5 + 3, none⟩ = some (.slice a0' ws'.length c0') ∧ w'.cell? ⟨b', off' + k * 5 + 4, none⟩ = some (.slice a1' bs'.length c1')) (go_keep)
        (first
          | (go_at_call 70
             refine (c_eqLay kk i o a0 a0' a1 a1' c0 c0' c1 c1' ws ws' bs bs' _ (HF0.out.kept BD.out) (HF0'.out.kept BD.out) HC0.out (HF1.out.kept BD.out) (HF1'.out.kept BD.out) HC1.out).mono ?_
             rintro e w2 ⟨rfl, bl⟩
             have HB2 := Lib.hid (HB.out.drew.trans (bl.mono HB.out.size))
             have r0 := (bl.cell (p := ⟨b, off + k * 5, none⟩) hbk).trans q0
             have r1 := (bl.cell (p := ⟨b, off + k * 5 + 1, none⟩) hbk).trans q1
             have r2 := (bl.cell (p := ⟨b, off + k * 5 + 2, none⟩) hbk).trans q2
             have r3 := (bl.cell (p := ⟨b, off + k * 5 + 3, none⟩) hbk).trans q3
             have r4 := (bl.cell (p := ⟨b, off + k * 5 + 4, none⟩) hbk).trans q4
             have r'0 := (bl.cell (p := ⟨b', off' + k * 5, none⟩) hbk').trans q0'
             have r'1 := (bl.cell (p := ⟨b', off' + k * 5 + 1, none⟩) hbk').trans q1'
             have r'2 := (bl.cell (p := ⟨b', off' + k * 5 + 2, none⟩) hbk').trans q2'
             have r'3 := (bl.cell (p := ⟨b', off' + k * 5 + 3, none⟩) hbk').trans q3'
             have r'4 := (bl.cell (p := ⟨b', off' + k * 5 + 4, none⟩) hbk').trans q4'
             clear bl))
      all_goals
        go_wp2_with fail
        go_roundw
        case rel => exact ⟨k + 1, by omega, by go_num, HB2.out⟩
        case measure => simp [intOf]; omega
    · obtain rfl : k = n := by omega
      go_wp2
      go_ret
      exact ⟨rfl, HB.out⟩
set_option maxRecDepth 100000 in
open Go.ChangeShapes Go.WideShapes Go.Deep in
theorem open_Mod {H : Type} {enc : TypeId × Value → H} {W : World} {base b0 : Nat} {re : Reach} {held : Bool} {v : Value} {d : DataW H} {p : List MemPlace}
    (hv : Value.okWide Try.prog W re b0 24 v) (h : DataW.Trod enc Try.prog W base (fun _ => true) held 24 v d p) :
    ∃ x : ModA, v = .agg #[.slice x.g x.ls.length x.c] ∧ LaysAt W x.g x.ls.length x.c x.ls := by
  obtain ⟨cs, rfl, hsz⟩ := okWide_struct Try.underlying24 hv
  obtain ⟨fuel, hf⟩ := h
  obtain ⟨l, e, ha, ht⟩ := opened 5 _ _ _ _ _ (show tyOf Try.prog 5 24 = some [.sl 93 5 [.int, .int, .int, .sl 26 1 [.f32], .sl 26 1 [.f32]]] by kernel_rfl) hf
  simp only [typedL, Cl.typed.eq_4] at ht
  obtain ⟨c0, l0, rfl, ⟨g, cap, ls, rfl, hl⟩, rfl⟩ := ht
  obtain ⟨rs, e1, e2⟩ := typed_list LayA.cs (fun l h => LayA.typed h) ls hl
  rw [e1, ← e2] at ha e
  refine ⟨⟨g, cap, rs⟩, ?_, ?_⟩
  · simp only [Value.cells] at e
    rw [show cs = #[.slice g rs.length cap] from (Array.toList_inj.1 (by rw [← e]; rfl)).symm]
  · exact laysAt_cl.1 (by simpa [AtL, laysC] using ha)
theorem c_szMod (g : Option Addr) (cap n l r : Nat) (ls : List LayA) (w : World) (h : LaysAt w g n cap ls) (hl : l ≤ 1048576) (hs : n + laySum (ls.map LayA.p) ≤ l) (hr : l - (n + laySum (ls.map LayA.p)) = r) :
    Calls Try.prog 27 #[.agg #[.slice g n cap], .int .i64 l] w fun e w' => e = .returned (.int .i64 (r : Int)) ∧ Below w.heap.size w w' := by
  have H := Lib.hid h
  have HS := Lib.hid hs
  have HR := Lib.hid hr
  have h0 : (0 : Int) ≤ (r : Int) := by omega
  clear h hs hr
  go_enter Try.func27, Try.ntmps27
  go_wp2_with fail
  have b0 := (Below.refl w.heap.size w).alloc (Nat.le_refl _) (.cells #[.slice g n cap] 24)
  refine (c_szLays g cap n l r ls _ (H.out.kept b0) hl HS.out HR.out).mono ?_
  rintro e w1 ⟨rfl, bl⟩
  have HB := Lib.hid (Below.next b0 bl)
  clear b0 bl
  go_wp2_with fail
  go_ret
  exact ⟨rfl, HB.out⟩
theorem c_szMod_no (g : Option Addr) (cap n l : Nat) (ls : List LayA) (w : World) (h : LaysAt w g n cap ls) (hl : l ≤ 1048576) (hs : l < n + laySum (ls.map LayA.p)) :
    Calls Try.prog 27 #[.agg #[.slice g n cap], .int .i64 l] w fun e w' => e = .returned (.int .i64 (-1)) ∧ Below w.heap.size w w' := by
  have H := Lib.hid h
  have HS := Lib.hid hs
  clear h hs
  go_enter Try.func27, Try.ntmps27
  go_wp2_with fail
  have b0 := (Below.refl w.heap.size w).alloc (Nat.le_refl _) (.cells #[.slice g n cap] 24)
  refine (c_szLays_no g cap n l ls _ (H.out.kept b0) hl HS.out).mono ?_
  rintro e w1 ⟨rfl, bl⟩
  have HB := Lib.hid (Below.next b0 bl)
  clear b0 bl
  go_wp2_with fail
  go_ret
  exact ⟨rfl, HB.out⟩
def RetMod (ps : List LayP) (n : Nat) (w : World) (e : Ending) (w' : World) : Prop :=
  ∃ (g : Nat) (ys : List LayA), e = .returned (.agg #[.slice (some ⟨g, 0, none⟩) n n]) ∧ ys.length = n ∧ ys.map LayA.p = ps ∧ OwnL w' w.heap.size [.sl 82 5 n (some ⟨g, 0, none⟩) n (laysC ys)] ∧ (blL [.sl 82 5 n (some ⟨g, 0, none⟩) n (laysC ys)]).Nodup ∧ Below w.heap.size w w'
theorem cell_alloc3 (w : World) (o1 o2 o3 : Obj) : w.heap.size ≤ w.heap.size := Nat.le_refl _
set_option maxRecDepth 20000 in
set_option maxHeartbeats 1000000 in
theorem c_toMod (g : Option Addr) (cap n : Nat) (ls : List LayA) (w : World) (h : LaysAt w g n cap ls) (hl : n + laySum (ls.map LayA.p) ≤ 1048576) :
    Calls Try.prog 30 #[.agg #[.slice g n cap]] w (RetMod (ls.map LayA.p) n w) := by
  have H := Lib.hid h
  have HL := Lib.hid hl
  clear h hl
  go_enter Try.func30, Try.ntmps30
  go_wp2_with fail
  have b0 := (((Below.refl w.heap.size w).alloc (Nat.le_refl _) (.cells #[.slice g n cap] 24)).alloc (by simp) (.cells #[.slice none 0 0] 33)).alloc (by simp; omega) (.cells #[.slice none 0 0] 33)
  have k2 := (Blk.new (w.alloc (.cells #[.slice g n cap] 24)) 33 #[.slice none 0 0]).below ((Below.refl _ _).alloc (Nat.le_refl _) (.cells #[.slice none 0 0] 33))
  have k3 := Blk.new ((w.alloc (.cells #[.slice g n cap] 24)).alloc (.cells #[.slice none 0 0] 33)) 33 #[.slice none 0 0]
  simp only [World.size_alloc] at k2 k3
  generalize ((w.alloc (.cells #[.slice g n cap] 24)).alloc (.cells #[.slice none 0 0] 33)).alloc (.cells #[.slice none 0 0] 33) = W0 at b0 k2 k3 ⊢
  have s3 := k3.lt
  refine (c_toLays g cap n ls _ (H.out.kept b0) HL.out).mono ?_
  rintro e w1 ⟨gd, ys, rfl, hyl, hyp, ho, hnd, bl⟩
  have K2 := Lib.hid (k2.below bl)
  have K3 := Lib.hid (k3.below bl)
  have S3 := Lib.hid s3
  have HB := Lib.hid (Below.next b0 bl)
  have HO := Lib.hid ho
  have HYL := Lib.hid hyl
  have HYP := Lib.hid hyp
  have HND := Lib.hid hnd
  have BS := Lib.hid (show w.heap.size + 1 + 1 < W0.heap.size from s3)
  clear b0 k2 k3 s3 hyl hyp ho hnd bl
  have p2 := K2.out.cell 0
  have p3 := K3.out.cell 0
  have f2 := K2.out.frozen 0
  have f3 := K3.out.frozen 0
  simp only [List.getElem?_toArray, List.getElem?_cons_zero] at p2 p3
  go_wp2_with fail
  refine bodyPost_ret (v := .agg #[.slice (some ⟨gd, 0, none⟩) n n]) (by simp [results, Try.results30, go_sem, p2]) rfl ⟨gd, ys, rfl, HYL.out, HYP.out, ?_, HND.out, ?_⟩
  · have := BS.out
    exact OwnL.base (by omega) _ ((HO.out.far (p := ⟨w.heap.size + 1 + 1, 0, none⟩) (by simp; omega) _).far (p := ⟨w.heap.size + 1, 0, none⟩) (by simp; omega) _)
  · exact (HB.out.setCell (p := ⟨w.heap.size + 1 + 1, 0, none⟩) (by simp; omega) _).setCell (p := ⟨w.heap.size + 1, 0, none⟩) (by simp) _
set_option maxHeartbeats 1000000 in
theorem c_eqMod (g g' : Option Addr) (cap cap' n : Nat) (ls ls' : List LayA) (w : World) (h : LaysAt w g n cap ls) (h' : LaysAt w g' n cap' ls') (hp : ls.map (fun x => x.p.can) = ls'.map (fun x => x.p.can)) :
    Calls Try.prog 36 #[.agg #[.slice g n cap], .agg #[.slice g' n cap']] w fun e w' => e = .returned (.bool true) ∧ Below w.heap.size w w' := by
  have H := Lib.hid h
  have H' := Lib.hid h'
  have HP := Lib.hid hp
  clear h h' hp
  go_enter Try.func36, Try.ntmps36
  go_wp2_with fail
  have b0 := ((Below.refl w.heap.size w).alloc (Nat.le_refl _) (.cells #[.slice g n cap] 33)).alloc (by simp) (.cells #[.slice g' n cap'] 33)
  refine (c_eqLays g g' cap cap' n ls ls' _ (H.out.kept b0) (H'.out.kept b0) HP.out).mono ?_
  rintro e w1 ⟨rfl, bl⟩
  have HB := Lib.hid (Below.next b0 bl)
  clear b0 bl
  go_wp2_with fail
  go_ret
  exact ⟨rfl, HB.out⟩
end Go.Proofs.Ytlddonneccihiaa
