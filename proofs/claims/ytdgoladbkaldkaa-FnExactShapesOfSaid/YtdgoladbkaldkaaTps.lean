/-
  Words for lists of Op: sizes, copies, comparing, marking and looking again. Conditions: the cells can be read.
-/
import Derived.Test.YtdgoladbkaldkaaTpw
namespace Go.Proofs.Ytdgoladbkaldkaa
open Go.RowKit
set_option linter.unusedVariables false

/-- the cells of a list -/
def tpsC (ls : List TpA) : List Cl := ls.flatMap TpA.cs
def tpSum (ps : List TpP) : Nat := (ps.map TpP.n).sum
theorem tpsC_length (ls : List TpA) : (tpsC ls).length = ls.length * 7 := by
  induction ls with
  | nil => rfl
  | cons l ls ih => simp only [tpsC, List.flatMap_cons, List.length_append, List.length_cons, TpA.cs_len] at ih ⊢; omega
theorem tpsC_get (ls : List TpA) (i : Nat) (x : TpA) (h : ls[i]? = some x) (j : Nat) (hj : j < 7) : (tpsC ls)[i * 7 + j]? = x.cs[j]? := by
  induction ls generalizing i with
  | nil => simp at h
  | cons l ls ih =>
    simp only [tpsC, List.flatMap_cons] at ih ⊢
    cases i with
    | zero =>
      simp only [List.getElem?_cons_zero, Option.some.injEq] at h
      subst h
      rw [Nat.zero_mul, Nat.zero_add, List.getElem?_append_left (by rw [TpA.cs_len]; exact hj)]
    | succ i =>
      simp only [List.getElem?_cons_succ] at h
      rw [List.getElem?_append_right (by rw [TpA.cs_len]; omega), TpA.cs_len, show (i + 1) * 7 + j - 7 = i * 7 + j by omega]
      exact ih i h
def TpsAt (w : World) (g : Option Addr) (n cap : Nat) (ls : List TpA) : Prop :=
  ls.length = n ∧ n ≤ cap ∧ cap ≤ maxLen ∧ AtL w (tpsC ls) ∧ (n = 0 ∨ ∃ b off, g = some ⟨b, off, none⟩ ∧ b < w.heap.size ∧ ∀ i, i < n * 7 → w.cell? ⟨b, off + i, none⟩ = (vs (tpsC ls))[i]?)
theorem tpsAt_cl {w : World} {t : TypeId} {g : Option Addr} {c : Nat} {ls : List TpA} : (Cl.sl t 7 ls.length g c (tpsC ls)).At w ↔ TpsAt w g ls.length c ls := by
  simp only [Cl.At, TpsAt, tpsC_length, true_and]
  constructor
  · rintro ⟨⟨h1, h2, h3⟩, h4⟩; exact ⟨h1, h2, h4, h3⟩
  · rintro ⟨h1, h2, h4, h3⟩; exact ⟨⟨h1, h2, h3⟩, h4⟩
theorem tpsAt_own {w : World} {B : Nat} {t : TypeId} {g : Option Addr} {n c : Nat} {ys : List TpA} (hl : ys.length = n) (h : OwnL w B [.sl t 7 n g c (tpsC ys)]) : TpsAt w g n c ys := by
  subst hl
  exact tpsAt_cl.1 ((OwnL.at _ h).1)
theorem tp_can_of {xs ys : List TpA} (h : xs.map TpA.p = ys.map TpA.p) : xs.map (fun x => x.p.can) = ys.map (fun x => x.p.can) := by
  have h1 : (xs.map TpA.p).map TpP.can = (ys.map TpA.p).map TpP.can := by rw [h]
  simpa [List.map_map, Function.comp_def] using h1
theorem TpsAt.kept {w w' : World} {g : Option Addr} {n cap : Nat} {ls : List TpA} (h : TpsAt w g n cap ls) (hb : Below w.heap.size w w') : TpsAt w' g n cap ls := by
  obtain ⟨rfl, r⟩ := h
  have h : TpsAt w g ls.length cap ls := ⟨rfl, r⟩
  exact tpsAt_cl.1 (Cl.At.kept hb _ (tpsAt_cl (t := 0).2 h))
theorem TpsAt.one {w : World} {g : Option Addr} {n cap : Nat} {ls : List TpA} (h : TpsAt w g n cap ls) {i : Nat} (hi : i < n) : ∃ (b off : Nat) (kd : Int) (xa : Int) (xb : Int) (nu : Nat) (rw : Int) (cl : Int) (zd : List Nat) (a0 : Option Addr) (c0 : Nat), g = some ⟨b, off, none⟩ ∧ b < w.heap.size ∧ ls[i]? = some ⟨⟨kd, xa, xb, nu, rw, cl, zd⟩, a0, c0⟩ ∧
    w.cell? ⟨b, off + i * 7, none⟩ = some (.int .i64 kd) ∧ w.cell? ⟨b, off + i * 7 + 1, none⟩ = some (.int .i64 xa) ∧ w.cell? ⟨b, off + i * 7 + 2, none⟩ = some (.int .i64 xb) ∧ w.cell? ⟨b, off + i * 7 + 3, none⟩ = some (.float .f32 nu) ∧ w.cell? ⟨b, off + i * 7 + 4, none⟩ = some (.int .i64 rw) ∧ w.cell? ⟨b, off + i * 7 + 5, none⟩ = some (.int .i64 cl) ∧ w.cell? ⟨b, off + i * 7 + 6, none⟩ = some (.slice a0 zd.length c0) ∧
    nu < 2 ^ 32 ∧ IsFloats .f32 w a0 zd.length c0 zd := by
  obtain ⟨hl, _, _, ha, hc⟩ := h
  have hx : ls[i]? = some ls[i] := List.getElem?_eq_getElem (by omega)
  obtain ⟨x, hx'⟩ : ∃ x, ls[i] = x := ⟨_, rfl⟩
  rw [hx'] at hx
  rcases hc with h0 | ⟨b, off, rfl, hb, hc⟩
  · omega
  · have hcell : ∀ j, j < 7 → w.cell? ⟨b, off + i * 7 + j, none⟩ = (vs x.cs)[j]? := by
      intro j hj
      have h1 := hc (i * 7 + j) (by omega)
      rw [← Nat.add_assoc] at h1
      rw [h1]
      simp only [vs, List.getElem?_map, tpsC_get ls i x hx j hj]
    have hat : AtL w x.cs := by
      rw [AtL_iff] at ha ⊢
      intro c hcm
      exact ha c (List.mem_flatMap.2 ⟨x, List.mem_of_getElem? hx, hcm⟩)
    rw [TpA.at_iff] at hat
    obtain ⟨⟨kd, xa, xb, nu, rw, cl, zd⟩, a0, c0⟩ := x
    exact ⟨b, off, kd, xa, xb, nu, rw, cl, zd, a0, c0, rfl, hb, hx, hcell 0 (by omega), hcell 1 (by omega), hcell 2 (by omega), hcell 3 (by omega), hcell 4 (by omega), hcell 5 (by omega), hcell 6 (by omega), hat.1, hat.2⟩
theorem TpsAt.floats {w : World} {g : Option Addr} {n cap : Nat} {ls : List TpA} (h : TpsAt w g n cap ls) {i : Nat} {x : TpA} (hx : ls[i]? = some x) : x.p.nu < 2 ^ 32 ∧ IsFloats .f32 w x.a0 x.p.zd.length x.c0 x.p.zd := by
  have ha := h.2.2.2.1
  rw [AtL_iff] at ha
  exact TpA.at_iff.1 (AtL_iff.2 fun c hc => ha c (List.mem_flatMap.2 ⟨x, List.mem_of_getElem? hx, hc⟩))
theorem tpSum_append (a b : List TpP) : tpSum (a ++ b) = tpSum a + tpSum b := by simp [tpSum]
theorem tpSum_take {ls : List TpA} {i : Nat} {x : TpA} (h : ls[i]? = some x) : tpSum ((ls.take (i + 1)).map TpA.p) = tpSum ((ls.take i).map TpA.p) + (x.p.zd.length) := by
  rw [List.take_add_one, h, List.map_append, tpSum_append]
  simp [tpSum, TpP.n]
theorem tpSum_le {ls : List TpA} (i : Nat) : tpSum ((ls.take i).map TpA.p) ≤ tpSum (ls.map TpA.p) := by
  have h : ls.map TpA.p = (ls.take i).map TpA.p ++ (ls.drop i).map TpA.p := by rw [← List.map_append, List.take_append_drop]
  rw [h, tpSum_append]
  omega
set_option maxRecDepth 100000 in
open Go.ChangeShapes Go.WideShapes Go.Deep in
theorem open_Tps {H : Type} {enc : TypeId × Value → H} {W : World} {base b0 : Nat} {re : Reach} {held : Bool} {v : Value} {d : DataW H} {p : List MemPlace}
    (hv : Value.okWide Try.prog W re b0 22 v) (h : DataW.Trod enc Try.prog W base (fun _ => true) held 22 v d p) :
    ∃ (g : Option Addr) (c : Nat) (ls : List TpA), v = .slice g ls.length c ∧ TpsAt W g ls.length c ls := by
  obtain ⟨a, len, cap, rfl⟩ := okWide_slice Try.underlying22 hv
  obtain ⟨fuel, hf⟩ := h
  obtain ⟨l, e, ha, ht⟩ := opened 5 _ _ _ _ _ (show tyOf Try.prog 5 22 = some [.sl 54 7 [.int, .int, .int, .f32, .int, .int, .sl 52 1 [.f32]]] by kernel_rfl) hf
  simp only [typedL, Cl.typed.eq_4] at ht
  obtain ⟨c0, l0, rfl, ⟨g, cp, ls, rfl, hl⟩, rfl⟩ := ht
  obtain ⟨rs, e1, e2⟩ := typed_list TpA.cs (fun l h => TpA.typed h) ls hl
  rw [e1, ← e2] at ha e
  simp only [Value.cells, vs, List.map_cons, List.map_nil, Cl.v, List.cons.injEq, Value.slice.injEq, and_true] at e
  obtain ⟨rfl, rfl, rfl⟩ := e
  exact ⟨_, _, rs, rfl, tpsAt_cl.1 (by simpa [AtL, tpsC] using ha)⟩
def SzTpRel (ls : List TpA) (l : Nat) (w : World) (lv iv : Value) (wr : World) : Prop :=
  ∃ j : Nat, j ≤ ls.length ∧ iv = .int .i64 j ∧ tpSum ((ls.take j).map TpA.p) ≤ l ∧ lv = .int .i64 ((l - tpSum ((ls.take j).map TpA.p) : Nat) : Int) ∧ Below w.heap.size w wr
set_option maxRecDepth 20000 in
set_option maxHeartbeats 1000000 in
theorem c_szTps (g : Option Addr) (cap n l r : Nat) (ls : List TpA) (w : World) (h : TpsAt w g n cap ls) (hl : l ≤ 1048576) (hs : n + tpSum (ls.map TpA.p) ≤ l) (hr : l - (n + tpSum (ls.map TpA.p)) = r) :
    Calls Try.prog 7 #[.slice g n cap, .int .i64 l] w fun e w' => e = .returned (.int .i64 (r : Int)) ∧ Below w.heap.size w w' := by
  have hln : ls.length = n := h.1
  have H := Lib.hid h
  have HS := Lib.hid hs
  have HR := Lib.hid hr
  have HN := Lib.hid hln
  obtain ⟨l0, e0⟩ : ∃ l0, l - n = l0 := ⟨_, rfl⟩
  have E0 := Lib.hid e0
  have hnl : (n : Int) ≤ (l : Int) := by omega
  have hl0 : l0 ≤ 1048576 := by omega
  have hw : (l : Int) - (n : Int) = (l0 : Int) := by omega
  have HW := Lib.hid hw
  have h0 : (0 : Int) ≤ (l0 : Int) := by omega
  clear h hs hr hln e0 hw
  go_enter Try.func7, Try.ntmps7
  go_wp2_with fail
  rw [HW.out]
  go_wp2_with fail
  go_loopw [1, 5] (fun lv iv wr => SzTpRel ls l0 w lv iv wr) (fun _ iv _ => n - (intOf iv).toNat)
  case atStart => exact ⟨0, Nat.zero_le _, rfl, by simp [tpSum], by simp [tpSum], Below.refl _ _⟩
  case round =>
    obtain ⟨j, hj, rfl, hle, rfl, hb⟩ := hrel
    have HB := Lib.hid hb
    have HLE := Lib.hid hle
    have HJ := Lib.hid hj
    rw [HN.out] at hj
    obtain ⟨lj, hlj⟩ : ∃ lj, l0 - tpSum ((ls.take j).map TpA.p) = lj := ⟨_, rfl⟩
    have HLJ := Lib.hid hlj
    rw [hlj]
    have hlj0 : (0 : Int) ≤ (lj : Int) := by omega
    clear hb hle hlj
    by_cases hlt : j < n
    · obtain ⟨b, off, kd, xa, xb, nu, rw, cl, zd, a0, c0, rfl, hbk, hx, q0, q1, q2, q3, q4, q5, q6, fxnu, f0⟩ := (H.out.kept HB.out).one hlt
      have HX := Lib.hid hx
      have hst := tpSum_take hx
      dsimp only at hst
      have htl := tpSum_le (ls := ls) (j + 1)
      obtain ⟨l1, hl1⟩ : ∃ l1, lj - (zd.length) = l1 := ⟨_, rfl⟩
      have hfit : zd.length ≤ lj := by have := HS.out; have := E0.out; have := HLJ.out; have := HLE.out; omega
      have hnew : l1 = l0 - tpSum ((ls.take (j + 1)).map TpA.p) := by have := HLJ.out; omega
      have hle2 : tpSum ((ls.take (j + 1)).map TpA.p) ≤ l0 := by have := HS.out; have := E0.out; omega
      have HL1 := Lib.hid hl1
      have HF := Lib.hid hfit
      have HNW := Lib.hid hnew
      have HLE2 := Lib.hid hle2
      have hl1p : (0 : Int) ≤ (l1 : Int) := by omega
      have hljm : lj ≤ 1048576 := by omega
      clear fxnu f0 hx hst htl hl1 hfit hnew hle2
      go_wp2_with fail
      refine (c_szTp kd xa xb nu rw cl a0 zd.length c0 lj l1 _ HF.out hljm HL1.out).mono ?_
      rintro e w2 ⟨rfl, bl⟩
      have HB2 := Lib.hid (Below.next HB.out bl)
      clear bl
      go_wp2_with fail
      go_roundw
      case rel => exact ⟨j + 1, by have := HN.out; omega, by go_num, HLE2.out, by rw [HNW.out], HB2.out⟩
      case measure => simp [intOf]; omega
    · obtain rfl : j = n := by omega
      have hall : lj = r := by
        have h1 := HLJ.out; have h2 := HN.out; have h3 := HR.out; have h4 := E0.out
        rw [← h2, List.take_length] at h1
        omega
      go_wp2_with fail
      go_ret
      exact ⟨ret_i (by rw [hall]), HB.out⟩
set_option maxRecDepth 20000 in
set_option maxHeartbeats 1000000 in
theorem c_szTps_no (g : Option Addr) (cap n l : Nat) (ls : List TpA) (w : World) (h : TpsAt w g n cap ls) (hl : l ≤ 1048576) (hs : l < n + tpSum (ls.map TpA.p)) :
    Calls Try.prog 7 #[.slice g n cap, .int .i64 l] w fun e w' => e = .returned (.int .i64 (-1)) ∧ Below w.heap.size w w' := by
  have hln : ls.length = n := h.1
  have hnm : n ≤ 9223372036854775807 := by have h1 := h.2.1; have h2 := h.2.2.1; unfold maxLen at h2; omega
  have H := Lib.hid h
  have HS := Lib.hid hs
  have HN := Lib.hid hln
  by_cases hq : n ≤ l
  case neg =>
    have h1 : (l : Int) < (n : Int) := by omega
    clear h hs hln hq
    go_enter Try.func7, Try.ntmps7
    go_wp2
    go_ret
    exact ⟨rfl, Below.refl _ _⟩
  case pos =>
  obtain ⟨l0, e0⟩ : ∃ l0, l - n = l0 := ⟨_, rfl⟩
  have E0 := Lib.hid e0
  have hnl : (n : Int) ≤ (l : Int) := by omega
  have hl0 : l0 ≤ 1048576 := by omega
  have hw : (l : Int) - (n : Int) = (l0 : Int) := by omega
  have HW := Lib.hid hw
  have h0 : (0 : Int) ≤ (l0 : Int) := by omega
  have HS0 := Lib.hid (show l0 < tpSum (ls.map TpA.p) by omega)
  clear h hs hln e0 hw hq
  go_enter Try.func7, Try.ntmps7
  go_wp2_with fail
  rw [HW.out]
  go_wp2_with fail
  go_loopw [1, 5] (fun lv iv wr => SzTpRel ls l0 w lv iv wr) (fun _ iv _ => n - (intOf iv).toNat)
  case atStart => exact ⟨0, Nat.zero_le _, rfl, by simp [tpSum], by simp [tpSum], Below.refl _ _⟩
  case round =>
    obtain ⟨j, hj, rfl, hle, rfl, hb⟩ := hrel
    have HB := Lib.hid hb
    have HLE := Lib.hid hle
    have HJ := Lib.hid hj
    rw [HN.out] at hj
    obtain ⟨lj, hlj⟩ : ∃ lj, l0 - tpSum ((ls.take j).map TpA.p) = lj := ⟨_, rfl⟩
    have HLJ := Lib.hid hlj
    rw [hlj]
    have hlj0 : (0 : Int) ≤ (lj : Int) := by omega
    have hljm : lj ≤ 1048576 := by omega
    clear hb hle hlj
    by_cases hlt : j < n
    · obtain ⟨b, off, kd, xa, xb, nu, rw, cl, zd, a0, c0, rfl, hbk, hx, q0, q1, q2, q3, q4, q5, q6, fxnu, f0⟩ := (H.out.kept HB.out).one hlt
      have hst := tpSum_take hx
      dsimp only at hst
      have hm0 : zd.length ≤ 9223372036854775807 := by have h1 := f0.1; have h2 := f0.2.1; unfold maxLen at h2; omega
      by_cases hfit : zd.length ≤ lj
      · obtain ⟨l1, hl1⟩ : ∃ l1, lj - (zd.length) = l1 := ⟨_, rfl⟩
        have hnew : l1 = l0 - tpSum ((ls.take (j + 1)).map TpA.p) := by have := HLJ.out; omega
        have hle2 : tpSum ((ls.take (j + 1)).map TpA.p) ≤ l0 := by have := HLJ.out; have := HLE.out; omega
        have HL1 := Lib.hid hl1
        have HF := Lib.hid hfit
        have HNW := Lib.hid hnew
        have HLE2 := Lib.hid hle2
        have hl1p : (0 : Int) ≤ (l1 : Int) := by omega
        clear fxnu f0 hx hst hl1 hfit hnew hle2
        go_wp2_with fail
        refine (c_szTp kd xa xb nu rw cl a0 zd.length c0 lj l1 _ HF.out hljm HL1.out).mono ?_
        rintro e w2 ⟨rfl, bl⟩
        have HB2 := Lib.hid (Below.next HB.out bl)
        clear bl
        go_wp2_with fail
        go_roundw
        case rel => exact ⟨j + 1, by have := HN.out; omega, by go_num, HLE2.out, by rw [HNW.out], HB2.out⟩
        case measure => simp [intOf]; omega
      · have HF := Lib.hid (show lj < zd.length by omega)
        clear fxnu f0 hx hst hfit
        go_wp2_with fail
        refine (c_szTp_no kd xa xb nu rw cl a0 zd.length c0 lj _ HF.out hljm hm0).mono ?_
        rintro e w2 ⟨rfl, bl⟩
        have HB2 := Lib.hid (Below.next HB.out bl)
        clear bl
        go_wp2_with fail
        go_ret
        exact ⟨rfl, HB2.out⟩
    · exfalso
      obtain rfl : j = n := by omega
      have h1 := HLE.out; have h2 := HN.out; have h3 := HS0.out
      rw [← h2, List.take_length] at h1
      omega
theorem info_tp : (Try.prog.info? 56).map (fun i => (i.zero, i.size, i.bytes)) = some (some (.agg #[.int .i64 0, .int .i64 0, .int .i64 0, .float .f32 0, .int .i64 0, .int .i64 0, .slice none 0 0]), 7, 72) := by kernel_rfl
def RetTps (ps : List TpP) (n : Nat) (w : World) (e : Ending) (w' : World) : Prop :=
  ∃ (g : Nat) (ys : List TpA), e = .returned (.slice (some ⟨g, 0, none⟩) n n) ∧ ys.length = n ∧ ys.map TpA.p = ps ∧ OwnL w' w.heap.size [.sl 56 7 n (some ⟨g, 0, none⟩) n (tpsC ys)] ∧ (blL [.sl 56 7 n (some ⟨g, 0, none⟩) n (tpsC ys)]).Nodup ∧ Below w.heap.size w w'
def ToTpRel (ls : List TpA) (n gd : Nat) (w : World) (iv : Value) (wr : World) : Prop :=
  ∃ (k : Nat) (ys : List TpA) (cur : List Value), k ≤ n ∧ iv = .int .i64 k ∧ ys.length = k ∧ ys.map TpA.p = (ls.take k).map TpA.p ∧ wr.ownsRow w.heap.size 56 7 (.slice (some ⟨gd, 0, none⟩) n n) n cur ∧
    cur.take (k * 7) = vs (tpsC ys) ∧ OwnL wr (gd + 1) (tpsC ys) ∧ (blL (tpsC ys)).Nodup ∧ Below w.heap.size w wr
theorem tp_row_kept {w w' : World} {B : Nat} {t : TypeId} {sz n : Nat} {v : Value} {xs : List Value} (h : w.ownsRow B t sz v n xs) (hb : Below w.heap.size w w') : w'.ownsRow B t sz v n xs :=
  h.kept (row := none) ⟨hb.os, hb.tape, hb.output, hb.size, fun j hj _ => hb.block j hj⟩ (by cases v.ownBlock <;> simp)
theorem tp_row_cell {w : World} {B : Nat} {t : TypeId} {sz n cap g : Nat} {xs : List Value} (h : w.ownsRow B t sz (.slice (some ⟨g, 0, none⟩) n cap) n xs) (j : Nat) (hj : j < n * sz) : w.frozen? ⟨g, j, none⟩ = false ∧ ∃ v, w.cell? ⟨g, j, none⟩ = some v := by
  refine ⟨h.frozenAt j, ?_⟩
  rw [h.cellAt j hj]
  exact ⟨_, List.getElem?_eq_getElem (by rw [h.1]; exact hj)⟩
theorem tp_store {w : World} {B : Nat} {t : TypeId} {n cap g k : Nat} {xs : List Value} {v0 v1 v2 v3 v4 v5 v6 : Value} (h : w.ownsRow B t 7 (.slice (some ⟨g, 0, none⟩) n cap) n xs) (hk : k < n) :
    ∃ ys, ((((((((w.setCell ⟨g, k * 7, none⟩ v0).setCell ⟨g, k * 7 + 1, none⟩ v1).setCell ⟨g, k * 7 + 2, none⟩ v2).setCell ⟨g, k * 7 + 3, none⟩ v3).setCell ⟨g, k * 7 + 4, none⟩ v4).setCell ⟨g, k * 7 + 5, none⟩ v5).setCell ⟨g, k * 7 + 6, none⟩ v6)).ownsRow B t 7 (.slice (some ⟨g, 0, none⟩) n cap) n ys ∧ ys.take ((k + 1) * 7) = xs.take (k * 7) ++ [v0, v1, v2, v3, v4, v5, v6] := by
  have hl := h.1
  have hkn : k * 7 + 7 ≤ n * 7 := by omega
  refine ⟨_, (((((((h.stored (k * 7) v0).1.stored (k * 7 + 1) v1).1.stored (k * 7 + 2) v2).1.stored (k * 7 + 3) v3).1.stored (k * 7 + 4) v4).1.stored (k * 7 + 5) v5).1.stored (k * 7 + 6) v6) |>.1, ?_⟩
  rw [show (k + 1) * 7 = k * 7 + 6 + 1 by omega, take_set_succ _ _ _ (by first | (simp; omega) | omega), take_set_succ _ _ _ (by first | (simp; omega) | omega), take_set_succ _ _ _ (by first | (simp; omega) | omega), take_set_succ _ _ _ (by first | (simp; omega) | omega), take_set_succ _ _ _ (by first | (simp; omega) | omega), take_set_succ _ _ _ (by first | (simp; omega) | omega), take_set_succ _ _ _ (by first | (simp; omega) | omega)]
  simp
theorem tpsC_snoc (ys : List TpA) (y : TpA) : tpsC (ys ++ [y]) = tpsC ys ++ y.cs := by simp [tpsC]
set_option maxRecDepth 20000 in
set_option maxHeartbeats 1000000 in
theorem c_toTps (g : Option Addr) (cap n : Nat) (ls : List TpA) (w : World) (h : TpsAt w g n cap ls) (hl : n + tpSum (ls.map TpA.p) ≤ 1048576) :
    Calls Try.prog 9 #[.slice g n cap] w (RetTps (ls.map TpA.p) n w) := by
  have hnm : n ≤ maxLen := by have h1 := h.2.1; have h2 := h.2.2.1; omega
  have hn1 : n ≤ 1048576 := by omega
  obtain ⟨i0, hi, hz0, hz1, hz2⟩ := info_parts info_tp
  have HI := Lib.hid hi
  have HZ0 := Lib.hid hz0
  have HZ1 := Lib.hid hz1
  have HZ2 := Lib.hid hz2
  have H := Lib.hid h
  have HL := Lib.hid hl
  have HM := Lib.hid hnm
  clear h hi hz0 hz1 hz2 hl hnm
  go_enter Try.func9, Try.ntmps9
  go_wp2_with (at_make; refine wpList_make_full _ rfl _ _ 25 rfl w.heap.size 56 i0 (.agg #[.int .i64 0, .int .i64 0, .int .i64 0, .float .f32 0, .int .i64 0, .int .i64 0, .slice none 0 0]) 7 Try.underlying25 HI.out HZ0.out HZ1.out _ _ _ _ n rfl rfl rfl rfl ?c1 ?c2 ?c3 ?_)
  case c1 => rw [HZ2.out]; omega
  case c2 => exact HM.out
  case c3 => exact Nat.le_refl _
  intro w1 hown hgrow
  have hb1 : Below w.heap.size w w1 := (Below.refl _ _).grown hgrow (Nat.le_refl _) (fun k h => by cases h)
  have HO := Lib.hid hown
  have HB := Lib.hid hb1
  clear hown hb1 hgrow
  go_wp2
  go_loopw [4] (fun iv wr => ToTpRel ls n w.heap.size w iv wr) (fun iv _ => n - (intOf iv).toNat)
  case atStart => exact ⟨0, [], _, Nat.zero_le _, rfl, rfl, rfl, HO.out, rfl, by simp [tpsC, OwnL], by simp [tpsC, blL], HB.out⟩
  case round =>
    obtain ⟨k, ys, cur, hk, rfl, hyl, hyp, ho, htk, how, hnd, hb⟩ := hrel
    have HYL := Lib.hid hyl
    have HYP := Lib.hid hyp
    have HO' := Lib.hid ho
    have HT := Lib.hid htk
    have HW := Lib.hid how
    have HND := Lib.hid hnd
    have HB' := Lib.hid hb
    clear hyl hyp ho htk how hnd hb
    by_cases hlt : k < n
    · obtain ⟨b, off, kd, xa, xb, nu, rw, cl, zd, a0, c0, rfl, hbk, hx, q0, q1, q2, q3, q4, q5, q6, fxnu, f0⟩ := (H.out.kept HB'.out).one hlt
      have hst := tpSum_take hx
      dsimp only at hst
      have htl := tpSum_le (ls := ls) (k + 1)
      have HXnu := Lib.hid fxnu
      have z0 : zd.length ≤ 1048576 := by have := HL.out; omega
      have HF0 := Lib.hid f0
      have Z0 := Lib.hid z0
      have HX := Lib.hid hx
      clear fxnu f0 hx hst htl z0
      go_wp2_with fail
      refine (c_toTp kd xa xb nu rw cl a0 c0 zd _ HF0.out Z0.out).mono ?_
      rintro e w2 ⟨b0, rfl, o0, bl⟩
      have ho2 := tp_row_kept HO'.out bl
      obtain ⟨z0, v0, y0⟩ := tp_row_cell ho2 (k * 7) (by omega)
      obtain ⟨z1, v1, y1⟩ := tp_row_cell ho2 (k * 7 + 1) (by omega)
      obtain ⟨z2, v2, y2⟩ := tp_row_cell ho2 (k * 7 + 2) (by omega)
      obtain ⟨z3, v3, y3⟩ := tp_row_cell ho2 (k * 7 + 3) (by omega)
      obtain ⟨z4, v4, y4⟩ := tp_row_cell ho2 (k * 7 + 4) (by omega)
      obtain ⟨z5, v5, y5⟩ := tp_row_cell ho2 (k * 7 + 5) (by omega)
      obtain ⟨z6, v6, y6⟩ := tp_row_cell ho2 (k * 7 + 6) (by omega)
      have O2 := Lib.hid ho2
      have OO := Lib.hid (TpA.own_iff (x := ⟨⟨kd, xa, xb, nu, rw, cl, zd⟩, b0, zd.length⟩).2 ⟨HXnu.out, o0⟩)
      have BL := Lib.hid bl
      clear ho2 o0  bl q0 q1 q2 q3 q4 q5 q6
      go_wp2_with fail
      clear z0 y0 z1 y1 z2 y2 z3 y3 z4 y4 z5 y5 z6 y6
      go_roundw
      case rel =>
        have hlt0 : w.heap.size < wr.heap.size := (HO'.out.lt _ rfl).2
        obtain ⟨cur', hr, ht⟩ := tp_store O2.out hlt (v0 := .int .i64 kd) (v1 := .int .i64 xa) (v2 := .int .i64 xb) (v3 := .float .f32 nu) (v4 := .int .i64 rw) (v5 := .int .i64 cl) (v6 := .slice b0 zd.length zd.length)
        have how2 : OwnL w2 (w.heap.size + 1) (tpsC (ys ++ [⟨⟨kd, xa, xb, nu, rw, cl, zd⟩, b0, zd.length⟩])) := by
          rw [tpsC_snoc, OwnL_append]
          exact ⟨OwnL.kept HW.out BL.out, OwnL.base (by omega) _ OO.out⟩
        refine ⟨k + 1, ys ++ [⟨⟨kd, xa, xb, nu, rw, cl, zd⟩, b0, zd.length⟩], cur', by omega, by go_num, by simp [HYL.out], ?_, hr, ?_,
          (((((((how2.far (p := ⟨w.heap.size, _, none⟩) (by simp) _).far (p := ⟨w.heap.size, _, none⟩) (by simp) _).far (p := ⟨w.heap.size, _, none⟩) (by simp) _).far (p := ⟨w.heap.size, _, none⟩) (by simp) _).far (p := ⟨w.heap.size, _, none⟩) (by simp) _).far (p := ⟨w.heap.size, _, none⟩) (by simp) _).far (p := ⟨w.heap.size, _, none⟩) (by simp) _), ?_,
          ((((((((HB'.out.trans (BL.out.mono HB'.out.size)).setCell (p := ⟨w.heap.size, _, none⟩) (Nat.le_refl _) _).setCell (p := ⟨w.heap.size, _, none⟩) (Nat.le_refl _) _).setCell (p := ⟨w.heap.size, _, none⟩) (Nat.le_refl _) _).setCell (p := ⟨w.heap.size, _, none⟩) (Nat.le_refl _) _).setCell (p := ⟨w.heap.size, _, none⟩) (Nat.le_refl _) _).setCell (p := ⟨w.heap.size, _, none⟩) (Nat.le_refl _) _).setCell (p := ⟨w.heap.size, _, none⟩) (Nat.le_refl _) _)⟩
        · rw [List.take_add_one, HX.out, List.map_append, List.map_append, HYP.out]
          rfl
        · rw [ht, HT.out, tpsC_snoc, vs_append]
          rfl
        · rw [tpsC_snoc, blL_append]
          refine List.nodup_append.2 ⟨HND.out, TpA.nodup , ?_⟩
          intro x hx y hy e
          subst e
          exact apart_new HW.out OO.out x hx hy
      case measure => simp [intOf]; omega
    · obtain rfl : k = n := by omega
      go_wp2
      go_ret
      have ho := HO'.out
      have hcur : cur = vs (tpsC ys) := by
        rw [← HT.out, ← ho.1, List.take_length]
      rw [hcur] at ho
      have hlt : w.heap.size < wr.heap.size := (ho.lt _ rfl).2
      refine ⟨w.heap.size, ys, rfl, HYL.out, by rw [HYP.out]; rw [← H.out.1, List.take_length], ?_, ?_, HB'.out⟩
      · simp only [OwnL, Cl.Own, and_true]
        exact ⟨ho, OwnL.base (by omega) _ HW.out⟩
      · simp only [blL, Cl.bl, List.append_nil]
        refine List.nodup_append.2 ⟨by simp [blk], HND.out, ?_⟩
        intro x hx y hy e
        have := (OwnL.lt _ HW.out y hy).1
        simp [blk] at hx
        omega
theorem tp_can_at {ls ls' : List TpA} {i : Nat} {x y : TpA} (hp : ls.map (fun x => x.p.can) = ls'.map (fun x => x.p.can)) (hx : ls[i]? = some x) (hy : ls'[i]? = some y) : x.p.can = y.p.can := by
  have h1 : (ls.map (fun x => x.p.can))[i]? = (ls'.map (fun x => x.p.can))[i]? := by rw [hp]
  simpa [hx, hy] using h1
def EqTpsRel (n : Nat) (w : World) (iv : Value) (wr : World) : Prop := ∃ k : Nat, k ≤ n ∧ iv = .int .i64 k ∧ Below w.heap.size w wr
set_option maxRecDepth 20000 in
set_option maxHeartbeats 1000000 in
theorem c_eqTps (g g' : Option Addr) (cap cap' n : Nat) (ls ls' : List TpA) (w : World) (h : TpsAt w g n cap ls) (h' : TpsAt w g' n cap' ls') (hp : ls.map (fun x => x.p.can) = ls'.map (fun x => x.p.can)) :
    Calls Try.prog 11 #[.slice g n cap, .slice g' n cap'] w fun e w' => e = .returned (.bool true) ∧ Below w.heap.size w w' := by
  have hnm : n ≤ 9223372036854775807 := by have h1 := h.2.1; have h2 := h.2.2.1; unfold maxLen at h2; omega
  have H := Lib.hid h
  have H' := Lib.hid h'
  have HP := Lib.hid hp
  clear h h' hp
  go_enter Try.func11, Try.ntmps11
  go_wp2
  go_loopw [5] (fun iv wr => EqTpsRel n w iv wr) (fun iv _ => n - (intOf iv).toNat)
  case atStart => exact ⟨0, Nat.zero_le _, rfl, Below.refl _ _⟩
  case round =>
    obtain ⟨k, hk, rfl, hb⟩ := hrel
    have HB := Lib.hid hb
    clear hb
    by_cases hlt : k < n
    · obtain ⟨b, off, kd, xa, xb, nu, rw, cl, zd, a0, c0, rfl, hbk, hx, q0, q1, q2, q3, q4, q5, q6, fxnu, f0⟩ := (H.out.kept HB.out).one hlt
      obtain ⟨b', off', kd', xa', xb', nu', rw', cl', zd', a0', c0', rfl, hbk', hx', q0', q1', q2', q3', q4', q5', q6', fxnu', f0'⟩ := (H'.out.kept HB.out).one hlt
      have hc := tp_can_at HP.out hx hx'
      simp only [TpP.can, TpP.mk.injEq] at hc
      obtain ⟨rfl, rfl, rfl, hxnu, rfl, rfl, hc0⟩ := hc
      have HXQnu := Lib.hid hxnu
      have HF0 := Lib.hid f0
      have HF0' := Lib.hid f0'
      have HC0 := Lib.hid hc0
      clear fxnu f0 fxnu' f0' hxnu hc0 hx hx'
      have hlt' : (k : Int) < (n : Int) := by omega
      have hk0 : (0 : Int) ≤ (k : Int) := by omega
      have BD := Lib.hid ((Below.refl wr.heap.size wr).drew)
      go_wp2_with fail
      go_region_held3 (fun w' => w'.cell? ⟨b, off + k * 7, none⟩ = some (.int .i64 kd) ∧ w'.cell? ⟨b, off + k * 7 + 1, none⟩ = some (.int .i64 xa) ∧ w'.cell? ⟨b, off + k * 7 + 2, none⟩ = some (.int .i64 xb) ∧ w'.cell? ⟨b, off + k * 7 + 3, none⟩ = some (.float .f32 nu) ∧ w'.cell? ⟨b, off + k * 7 + 4, none⟩ = some (.int .i64 rw) ∧ w'.cell? ⟨b, off + k * 7 + 5, none⟩ = some (.int .i64 cl) ∧ w'.cell? ⟨b, off + k * 7 + 6, none⟩ = some (.slice a0 zd.length c0) ∧ w'.cell? ⟨b', off' + k * 7, none⟩ = some (.int .i64 kd) ∧ w'.cell? ⟨b', off' + k * 7 + 1, none⟩ = some (.int .i64 xa) ∧ w'.cell? ⟨b', off' + k * 7 + 2, none⟩ = some (.int .i64 xb) ∧ w'.cell? ⟨b', off' + k * 7 + 3, none⟩ = some (.float .f32 nu') ∧ w'.cell? ⟨b', off' + k * 7 + 4, none⟩ = some (.int .i64 rw) ∧ w'.cell? ⟨b', off' + k * 7 + 5, none⟩ = some (.int .i64 cl) ∧ w'.cell? ⟨b', off' + k * 7 + 6, none⟩ = some (.slice a0' zd'.length c0')) (go_keep)
        (first
          | (go_at_call 34
             refine (c_eqTp kd xa xb nu rw cl nu' a0 a0' c0 c0' zd zd' _ (HF0.out.kept BD.out) (HF0'.out.kept BD.out) HC0.out HXQnu.out).mono ?_
             rintro e w2 ⟨rfl, bl⟩
             have HB2 := Lib.hid (HB.out.drew.trans (bl.mono HB.out.size))
             have r0 := (bl.cell (p := ⟨b, off + k * 7, none⟩) hbk).trans q0
             have r0' := (bl.cell (p := ⟨b', off' + k * 7, none⟩) hbk').trans q0'
             have r1 := (bl.cell (p := ⟨b, off + k * 7 + 1, none⟩) hbk).trans q1
             have r1' := (bl.cell (p := ⟨b', off' + k * 7 + 1, none⟩) hbk').trans q1'
             have r2 := (bl.cell (p := ⟨b, off + k * 7 + 2, none⟩) hbk).trans q2
             have r2' := (bl.cell (p := ⟨b', off' + k * 7 + 2, none⟩) hbk').trans q2'
             have r3 := (bl.cell (p := ⟨b, off + k * 7 + 3, none⟩) hbk).trans q3
             have r3' := (bl.cell (p := ⟨b', off' + k * 7 + 3, none⟩) hbk').trans q3'
             have r4 := (bl.cell (p := ⟨b, off + k * 7 + 4, none⟩) hbk).trans q4
             have r4' := (bl.cell (p := ⟨b', off' + k * 7 + 4, none⟩) hbk').trans q4'
             have r5 := (bl.cell (p := ⟨b, off + k * 7 + 5, none⟩) hbk).trans q5
             have r5' := (bl.cell (p := ⟨b', off' + k * 7 + 5, none⟩) hbk').trans q5'
             have r6 := (bl.cell (p := ⟨b, off + k * 7 + 6, none⟩) hbk).trans q6
             have r6' := (bl.cell (p := ⟨b', off' + k * 7 + 6, none⟩) hbk').trans q6'
             clear bl))
      all_goals
        go_wp2_with fail
        go_roundw
        case rel => exact ⟨k + 1, by omega, by go_num, HB2.out⟩
        case measure => simp [intOf]; omega
    · obtain rfl : k = n := by omega
      go_wp2
      go_ret
      exact ⟨rfl, HB.out⟩
end Go.Proofs.Ytdgoladbkaldkaa
