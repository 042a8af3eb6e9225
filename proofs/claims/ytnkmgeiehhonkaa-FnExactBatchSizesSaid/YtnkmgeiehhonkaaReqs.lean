/-
  Words for lists of Request: sizes, copies, comparing, marking and looking again. Conditions: the cells can be read.
-/
import Derived.Test.YtnkmgeiehhonkaaReq
namespace Go.Proofs.Ytnkmgeiehhonkaa
open Go.RowKit
set_option linter.unusedVariables false

/-- the cells of a list -/
def reqsC (ls : List ReqA) : List Cl := ls.flatMap ReqA.cs
def reqSum (ps : List ReqP) : Nat := (ps.map ReqP.n).sum
theorem reqsC_length (ls : List ReqA) : (reqsC ls).length = ls.length * 2 := by
  induction ls with
  | nil => rfl
  | cons l ls ih => simp only [reqsC, List.flatMap_cons, List.length_append, List.length_cons, ReqA.cs_len] at ih ⊢; omega
theorem reqsC_get (ls : List ReqA) (i : Nat) (x : ReqA) (h : ls[i]? = some x) (j : Nat) (hj : j < 2) : (reqsC ls)[i * 2 + j]? = x.cs[j]? := by
  induction ls generalizing i with
  | nil => simp at h
  | cons l ls ih =>
    simp only [reqsC, List.flatMap_cons] at ih ⊢
    cases i with
    | zero =>
      simp only [List.getElem?_cons_zero, Option.some.injEq] at h
      subst h
      rw [Nat.zero_mul, Nat.zero_add, List.getElem?_append_left (by rw [ReqA.cs_len]; exact hj)]
    | succ i =>
      simp only [List.getElem?_cons_succ] at h
      rw [List.getElem?_append_right (by rw [ReqA.cs_len]; omega), ReqA.cs_len, show (i + 1) * 2 + j - 2 = i * 2 + j by omega]
      exact ih i h
def ReqsAt (w : World) (g : Option Addr) (n cap : Nat) (ls : List ReqA) : Prop :=
  ls.length = n ∧ n ≤ cap ∧ cap ≤ maxLen ∧ AtL w (reqsC ls) ∧ (n = 0 ∨ ∃ b off, g = some ⟨b, off, none⟩ ∧ b < w.heap.size ∧ ∀ i, i < n * 2 → w.cell? ⟨b, off + i, none⟩ = (vs (reqsC ls))[i]?)
theorem reqsAt_cl {w : World} {t : TypeId} {g : Option Addr} {c : Nat} {ls : List ReqA} : (Cl.sl t 2 ls.length g c (reqsC ls)).At w ↔ ReqsAt w g ls.length c ls := by
  simp only [Cl.At, ReqsAt, reqsC_length, true_and]
  constructor
  · rintro ⟨⟨h1, h2, h3⟩, h4⟩; exact ⟨h1, h2, h4, h3⟩
  · rintro ⟨h1, h2, h4, h3⟩; exact ⟨⟨h1, h2, h3⟩, h4⟩
theorem reqsAt_own {w : World} {B : Nat} {t : TypeId} {g : Option Addr} {n c : Nat} {ys : List ReqA} (hl : ys.length = n) (h : OwnL w B [.sl t 2 n g c (reqsC ys)]) : ReqsAt w g n c ys := by
  subst hl
  exact reqsAt_cl.1 ((OwnL.at _ h).1)
theorem req_can_of {xs ys : List ReqA} (h : xs.map ReqA.p = ys.map ReqA.p) : xs.map (fun x => x.p.can) = ys.map (fun x => x.p.can) := by
  have h1 : (xs.map ReqA.p).map ReqP.can = (ys.map ReqA.p).map ReqP.can := by rw [h]
  simpa [List.map_map, Function.comp_def] using h1
theorem ReqsAt.kept {w w' : World} {g : Option Addr} {n cap : Nat} {ls : List ReqA} (h : ReqsAt w g n cap ls) (hb : Below w.heap.size w w') : ReqsAt w' g n cap ls := by
  obtain ⟨rfl, r⟩ := h
  have h : ReqsAt w g ls.length cap ls := ⟨rfl, r⟩
  exact reqsAt_cl.1 (Cl.At.kept hb _ (reqsAt_cl (t := 0).2 h))
theorem ReqsAt.one {w : World} {g : Option Addr} {n cap : Nat} {ls : List ReqA} (h : ReqsAt w g n cap ls) {i : Nat} (hi : i < n) : ∃ (b off : Nat) (tk : Int) (ro : List Nat) (a0 : Option Addr) (c0 : Nat), g = some ⟨b, off, none⟩ ∧ b < w.heap.size ∧ ls[i]? = some ⟨⟨tk, ro⟩, a0, c0⟩ ∧
    w.cell? ⟨b, off + i * 2, none⟩ = some (.int .i64 tk) ∧ w.cell? ⟨b, off + i * 2 + 1, none⟩ = some (.slice a0 ro.length c0) ∧
    IsFloats .f32 w a0 ro.length c0 ro := by
  obtain ⟨hl, _, _, ha, hc⟩ := h
  have hx : ls[i]? = some ls[i] := List.getElem?_eq_getElem (by omega)
  obtain ⟨x, hx'⟩ : ∃ x, ls[i] = x := ⟨_, rfl⟩
  rw [hx'] at hx
  rcases hc with h0 | ⟨b, off, rfl, hb, hc⟩
  · omega
  · have hcell : ∀ j, j < 2 → w.cell? ⟨b, off + i * 2 + j, none⟩ = (vs x.cs)[j]? := by
      intro j hj
      have h1 := hc (i * 2 + j) (by omega)
      rw [← Nat.add_assoc] at h1
      rw [h1]
      simp only [vs, List.getElem?_map, reqsC_get ls i x hx j hj]
    have hat : AtL w x.cs := by
      rw [AtL_iff] at ha ⊢
      intro c hcm
      exact ha c (List.mem_flatMap.2 ⟨x, List.mem_of_getElem? hx, hcm⟩)
    rw [ReqA.at_iff] at hat
    obtain ⟨⟨tk, ro⟩, a0, c0⟩ := x
    exact ⟨b, off, tk, ro, a0, c0, rfl, hb, hx, hcell 0 (by omega), hcell 1 (by omega), hat⟩
theorem ReqsAt.floats {w : World} {g : Option Addr} {n cap : Nat} {ls : List ReqA} (h : ReqsAt w g n cap ls) {i : Nat} {x : ReqA} (hx : ls[i]? = some x) : IsFloats .f32 w x.a0 x.p.ro.length x.c0 x.p.ro := by
  have ha := h.2.2.2.1
  rw [AtL_iff] at ha
  exact ReqA.at_iff.1 (AtL_iff.2 fun c hc => ha c (List.mem_flatMap.2 ⟨x, List.mem_of_getElem? hx, hc⟩))
theorem reqSum_append (a b : List ReqP) : reqSum (a ++ b) = reqSum a + reqSum b := by simp [reqSum]
theorem reqSum_take {ls : List ReqA} {i : Nat} {x : ReqA} (h : ls[i]? = some x) : reqSum ((ls.take (i + 1)).map ReqA.p) = reqSum ((ls.take i).map ReqA.p) + (x.p.ro.length) := by
  rw [List.take_add_one, h, List.map_append, reqSum_append]
  simp [reqSum, ReqP.n]
theorem reqSum_le {ls : List ReqA} (i : Nat) : reqSum ((ls.take i).map ReqA.p) ≤ reqSum (ls.map ReqA.p) := by
  have h : ls.map ReqA.p = (ls.take i).map ReqA.p ++ (ls.drop i).map ReqA.p := by rw [← List.map_append, List.take_append_drop]
  rw [h, reqSum_append]
  omega
set_option maxRecDepth 100000 in
open Go.ChangeShapes Go.WideShapes Go.Deep in
theorem open_Reqs {H : Type} {enc : TypeId × Value → H} {W : World} {base b0 : Nat} {re : Reach} {held : Bool} {v : Value} {d : DataW H} {p : List MemPlace}
    (hv : Value.okWide Try.prog W re b0 40 v) (h : DataW.Trod enc Try.prog W base (fun _ => true) held 40 v d p) :
    ∃ (g : Option Addr) (c : Nat) (ls : List ReqA), v = .slice g ls.length c ∧ ReqsAt W g ls.length c ls := by
  obtain ⟨a, len, cap, rfl⟩ := okWide_slice Try.underlying40 hv
  obtain ⟨fuel, hf⟩ := h
  obtain ⟨l, e, ha, ht⟩ := opened 4 _ _ _ _ _ (show tyOf Try.prog 4 40 = some [.sl 144 2 [.int, .sl 72 1 [.f32]]] by kernel_rfl) hf
  simp only [typedL, Cl.typed.eq_4] at ht
  obtain ⟨c0, l0, rfl, ⟨g, cp, ls, rfl, hl⟩, rfl⟩ := ht
  obtain ⟨rs, e1, e2⟩ := typed_list ReqA.cs (fun l h => ReqA.typed h) ls hl
  rw [e1, ← e2] at ha e
  simp only [Value.cells, vs, List.map_cons, List.map_nil, Cl.v, List.cons.injEq, Value.slice.injEq, and_true] at e
  obtain ⟨rfl, rfl, rfl⟩ := e
  exact ⟨_, _, rs, rfl, reqsAt_cl.1 (by simpa [AtL, reqsC] using ha)⟩
def SzReqRel (ls : List ReqA) (l : Nat) (w : World) (lv iv : Value) (wr : World) : Prop :=
  ∃ j : Nat, j ≤ ls.length ∧ iv = .int .i64 j ∧ reqSum ((ls.take j).map ReqA.p) ≤ l ∧ lv = .int .i64 ((l - reqSum ((ls.take j).map ReqA.p) : Nat) : Int) ∧ Below w.heap.size w wr
set_option maxRecDepth 20000 in
set_option maxHeartbeats 1000000 in
theorem c_szReqs (g : Option Addr) (cap n l r : Nat) (ls : List ReqA) (w : World) (h : ReqsAt w g n cap ls) (hl : l ≤ 1048576) (hs : n + reqSum (ls.map ReqA.p) ≤ l) (hr : l - (n + reqSum (ls.map ReqA.p)) = r) :
    Calls Try.prog 29 #[.slice g n cap, .int .i64 l] w fun e w' => e = .returned (.int .i64 (r : Int)) ∧ Below w.heap.size w w' := by
  have hln : ls.length = n := h.1
  have H := Lib.hid h
  have HS := Lib.hid hs
  have HR := Lib.hid hr
  have HN := Lib.hid hln
  obtain ⟨l0, e0⟩ : ∃ l0, l - n = l0 := ⟨_, rfl⟩
  have E0 := Lib.hid e0
  have hnl : (n : Int) ≤ (l : Int) := by omega
  have hl0 : l0 ≤ 1048576 := by omega
  have hw : (l : Int) - (n : Int) = (l0 : Int) := by omega
  have HW := Lib.hid hw
  have h0 : (0 : Int) ≤ (l0 : Int) := by omega
  clear h hs hr hln e0 hw
  go_enter Try.func29, Try.ntmps29
  go_wp2_with fail
  rw [HW.out]
  go_wp2_with fail
  go_loopw [1, 5] (fun lv iv wr => SzReqRel ls l0 w lv iv wr) (fun _ iv _ => n - (intOf iv).toNat)
  case atStart => exact ⟨0, Nat.zero_le _, rfl, by simp [reqSum], by simp [reqSum], Below.refl _ _⟩
  case round =>
    obtain ⟨j, hj, rfl, hle, rfl, hb⟩ := hrel
    have HB := Lib.hid hb
    have HLE := Lib.hid hle
    have HJ := Lib.hid hj
    rw [HN.out] at hj
    obtain ⟨lj, hlj⟩ : ∃ lj, l0 - reqSum ((ls.take j).map ReqA.p) = lj := ⟨_, rfl⟩
    have HLJ := Lib.hid hlj
    rw [hlj]
    have hlj0 : (0 : Int) ≤ (lj : Int) := by omega
    clear hb hle hlj
    by_cases hlt : j < n
    · obtain ⟨b, off, tk, ro, a0, c0, rfl, hbk, hx, q0, q1, f0⟩ := (H.out.kept HB.out).one hlt
      have HX := Lib.hid hx
      have hst := reqSum_take hx
      dsimp only at hst
      have htl := reqSum_le (ls := ls) (j + 1)
      obtain ⟨l1, hl1⟩ : ∃ l1, lj - (ro.length) = l1 := ⟨_, rfl⟩
      have hfit : ro.length ≤ lj := by have := HS.out; have := E0.out; have := HLJ.out; have := HLE.out; omega
      have hnew : l1 = l0 - reqSum ((ls.take (j + 1)).map ReqA.p) := by have := HLJ.out; omega
      have hle2 : reqSum ((ls.take (j + 1)).map ReqA.p) ≤ l0 := by have := HS.out; have := E0.out; omega
      have HL1 := Lib.hid hl1
      have HF := Lib.hid hfit
      have HNW := Lib.hid hnew
      have HLE2 := Lib.hid hle2
      have hl1p : (0 : Int) ≤ (l1 : Int) := by omega
      have hljm : lj ≤ 1048576 := by omega
      clear f0 hx hst htl hl1 hfit hnew hle2
      go_wp2_with fail
      refine (c_szReq tk a0 ro.length c0 lj l1 _ HF.out hljm HL1.out).mono ?_
      rintro e w2 ⟨rfl, bl⟩
      have HB2 := Lib.hid (Below.next HB.out bl)
      clear bl
      go_wp2_with fail
      go_roundw
      case rel => exact ⟨j + 1, by have := HN.out; omega, by go_num, HLE2.out, by rw [HNW.out], HB2.out⟩
      case measure => simp [intOf]; omega
    · obtain rfl : j = n := by omega
      have hall : lj = r := by
        have h1 := HLJ.out; have h2 := HN.out; have h3 := HR.out; have h4 := E0.out
        rw [← h2, List.take_length] at h1
        omega
      go_wp2_with fail
      go_ret
      exact ⟨ret_i (by rw [hall]), HB.out⟩
set_option maxRecDepth 20000 in
set_option maxHeartbeats 1000000 in
theorem c_szReqs_no (g : Option Addr) (cap n l : Nat) (ls : List ReqA) (w : World) (h : ReqsAt w g n cap ls) (hl : l ≤ 1048576) (hs : l < n + reqSum (ls.map ReqA.p)) :
    Calls Try.prog 29 #[.slice g n cap, .int .i64 l] w fun e w' => e = .returned (.int .i64 (-1)) ∧ Below w.heap.size w w' := by
  have hln : ls.length = n := h.1
  have hnm : n ≤ 9223372036854775807 := by have h1 := h.2.1; have h2 := h.2.2.1; unfold maxLen at h2; omega
  have H := Lib.hid h
  have HS := Lib.hid hs
  have HN := Lib.hid hln
  by_cases hq : n ≤ l
  case neg =>
    have h1 : (l : Int) < (n : Int) := by omega
    clear h hs hln hq
    go_enter Try.func29, Try.ntmps29
    go_wp2
    go_ret
    exact ⟨rfl, Below.refl _ _⟩
  case pos =>
  obtain ⟨l0, e0⟩ : ∃ l0, l - n = l0 := ⟨_, rfl⟩
  have E0 := Lib.hid e0
  have hnl : (n : Int) ≤ (l : Int) := by omega
  have hl0 : l0 ≤ 1048576 := by omega
  have hw : (l : Int) - (n : Int) = (l0 : Int) := by omega
  have HW := Lib.hid hw
  have h0 : (0 : Int) ≤ (l0 : Int) := by omega
  have HS0 := Lib.hid (show l0 < reqSum (ls.map ReqA.p) by omega)
  clear h hs hln e0 hw hq
  go_enter Try.func29, Try.ntmps29
  go_wp2_with fail
  rw [HW.out]
  go_wp2_with fail
  go_loopw [1, 5] (fun lv iv wr => SzReqRel ls l0 w lv iv wr) (fun _ iv _ => n - (intOf iv).toNat)
  case atStart => exact ⟨0, Nat.zero_le _, rfl, by simp [reqSum], by simp [reqSum], Below.refl _ _⟩
  case round =>
    obtain ⟨j, hj, rfl, hle, rfl, hb⟩ := hrel
    have HB := Lib.hid hb
    have HLE := Lib.hid hle
    have HJ := Lib.hid hj
    rw [HN.out] at hj
    obtain ⟨lj, hlj⟩ : ∃ lj, l0 - reqSum ((ls.take j).map ReqA.p) = lj := ⟨_, rfl⟩
    have HLJ := Lib.hid hlj
    rw [hlj]
    have hlj0 : (0 : Int) ≤ (lj : Int) := by omega
    have hljm : lj ≤ 1048576 := by omega
    clear hb hle hlj
    by_cases hlt : j < n
    · obtain ⟨b, off, tk, ro, a0, c0, rfl, hbk, hx, q0, q1, f0⟩ := (H.out.kept HB.out).one hlt
      have hst := reqSum_take hx
      dsimp only at hst
      have hm0 : ro.length ≤ 9223372036854775807 := by have h1 := f0.1; have h2 := f0.2.1; unfold maxLen at h2; omega
      by_cases hfit : ro.length ≤ lj
      · obtain ⟨l1, hl1⟩ : ∃ l1, lj - (ro.length) = l1 := ⟨_, rfl⟩
        have hnew : l1 = l0 - reqSum ((ls.take (j + 1)).map ReqA.p) := by have := HLJ.out; omega
        have hle2 : reqSum ((ls.take (j + 1)).map ReqA.p) ≤ l0 := by have := HLJ.out; have := HLE.out; omega
        have HL1 := Lib.hid hl1
        have HF := Lib.hid hfit
        have HNW := Lib.hid hnew
        have HLE2 := Lib.hid hle2
        have hl1p : (0 : Int) ≤ (l1 : Int) := by omega
        clear f0 hx hst hl1 hfit hnew hle2
        go_wp2_with fail
        refine (c_szReq tk a0 ro.length c0 lj l1 _ HF.out hljm HL1.out).mono ?_
        rintro e w2 ⟨rfl, bl⟩
        have HB2 := Lib.hid (Below.next HB.out bl)
        clear bl
        go_wp2_with fail
        go_roundw
        case rel => exact ⟨j + 1, by have := HN.out; omega, by go_num, HLE2.out, by rw [HNW.out], HB2.out⟩
        case measure => simp [intOf]; omega
      · have HF := Lib.hid (show lj < ro.length by omega)
        clear f0 hx hst hfit
        go_wp2_with fail
        refine (c_szReq_no tk a0 ro.length c0 lj _ HF.out hljm hm0).mono ?_
        rintro e w2 ⟨rfl, bl⟩
        have HB2 := Lib.hid (Below.next HB.out bl)
        clear bl
        go_wp2_with fail
        go_ret
        exact ⟨rfl, HB2.out⟩
    · exfalso
      obtain rfl : j = n := by omega
      have h1 := HLE.out; have h2 := HN.out; have h3 := HS0.out
      rw [← h2, List.take_length] at h1
      omega
theorem info_req : (Try.prog.info? 145).map (fun i => (i.zero, i.size, i.bytes)) = some (some (.agg #[.int .i64 0, .slice none 0 0]), 2, 32) := by kernel_rfl
def RetReqs (ps : List ReqP) (n : Nat) (w : World) (e : Ending) (w' : World) : Prop :=
  ∃ (g : Nat) (ys : List ReqA), e = .returned (.slice (some ⟨g, 0, none⟩) n n) ∧ ys.length = n ∧ ys.map ReqA.p = ps ∧ OwnL w' w.heap.size [.sl 145 2 n (some ⟨g, 0, none⟩) n (reqsC ys)] ∧ (blL [.sl 145 2 n (some ⟨g, 0, none⟩) n (reqsC ys)]).Nodup ∧ Below w.heap.size w w'
def ToReqRel (ls : List ReqA) (n gd : Nat) (w : World) (iv : Value) (wr : World) : Prop :=
  ∃ (k : Nat) (ys : List ReqA) (cur : List Value), k ≤ n ∧ iv = .int .i64 k ∧ ys.length = k ∧ ys.map ReqA.p = (ls.take k).map ReqA.p ∧ wr.ownsRow w.heap.size 145 2 (.slice (some ⟨gd, 0, none⟩) n n) n cur ∧
    cur.take (k * 2) = vs (reqsC ys) ∧ OwnL wr (gd + 1) (reqsC ys) ∧ (blL (reqsC ys)).Nodup ∧ Below w.heap.size w wr
theorem req_row_kept {w w' : World} {B : Nat} {t : TypeId} {sz n : Nat} {v : Value} {xs : List Value} (h : w.ownsRow B t sz v n xs) (hb : Below w.heap.size w w') : w'.ownsRow B t sz v n xs :=
  h.kept (row := none) ⟨hb.os, hb.tape, hb.output, hb.size, fun j hj _ => hb.block j hj⟩ (by cases v.ownBlock <;> simp)
theorem req_row_cell {w : World} {B : Nat} {t : TypeId} {sz n cap g : Nat} {xs : List Value} (h : w.ownsRow B t sz (.slice (some ⟨g, 0, none⟩) n cap) n xs) (j : Nat) (hj : j < n * sz) : w.frozen? ⟨g, j, none⟩ = false ∧ ∃ v, w.cell? ⟨g, j, none⟩ = some v := by
  refine ⟨h.frozenAt j, ?_⟩
  rw [h.cellAt j hj]
  exact ⟨_, List.getElem?_eq_getElem (by rw [h.1]; exact hj)⟩
theorem req_store {w : World} {B : Nat} {t : TypeId} {n cap g k : Nat} {xs : List Value} {v0 v1 : Value} (h : w.ownsRow B t 2 (.slice (some ⟨g, 0, none⟩) n cap) n xs) (hk : k < n) :
    ∃ ys, (((w.setCell ⟨g, k * 2, none⟩ v0).setCell ⟨g, k * 2 + 1, none⟩ v1)).ownsRow B t 2 (.slice (some ⟨g, 0, none⟩) n cap) n ys ∧ ys.take ((k + 1) * 2) = xs.take (k * 2) ++ [v0, v1] := by
  have hl := h.1
  have hkn : k * 2 + 2 ≤ n * 2 := by omega
  refine ⟨_, ((h.stored (k * 2) v0).1.stored (k * 2 + 1) v1) |>.1, ?_⟩
  rw [show (k + 1) * 2 = k * 2 + 1 + 1 by omega, take_set_succ _ _ _ (by first | (simp; omega) | omega), take_set_succ _ _ _ (by first | (simp; omega) | omega)]
  simp
theorem reqsC_snoc (ys : List ReqA) (y : ReqA) : reqsC (ys ++ [y]) = reqsC ys ++ y.cs := by simp [reqsC]
set_option maxRecDepth 20000 in
set_option maxHeartbeats 1000000 in
theorem c_toReqs (g : Option Addr) (cap n : Nat) (ls : List ReqA) (w : World) (h : ReqsAt w g n cap ls) (hl : n + reqSum (ls.map ReqA.p) ≤ 1048576) :
    Calls Try.prog 31 #[.slice g n cap] w (RetReqs (ls.map ReqA.p) n w) := by
  have hnm : n ≤ maxLen := by have h1 := h.2.1; have h2 := h.2.2.1; omega
  have hn1 : n ≤ 1048576 := by omega
  obtain ⟨i0, hi, hz0, hz1, hz2⟩ := info_parts info_req
  have HI := Lib.hid hi
  have HZ0 := Lib.hid hz0
  have HZ1 := Lib.hid hz1
  have HZ2 := Lib.hid hz2
  have H := Lib.hid h
  have HL := Lib.hid hl
  have HM := Lib.hid hnm
  clear h hi hz0 hz1 hz2 hl hnm
  go_enter Try.func31, Try.ntmps31
  go_wp2_with (at_make; refine wpList_make_full _ rfl _ _ 44 rfl w.heap.size 145 i0 (.agg #[.int .i64 0, .slice none 0 0]) 2 Try.underlying44 HI.out HZ0.out HZ1.out _ _ _ _ n rfl rfl rfl rfl ?c1 ?c2 ?c3 ?_)
  case c1 => rw [HZ2.out]; omega
  case c2 => exact HM.out
  case c3 => exact Nat.le_refl _
  intro w1 hown hgrow
  have hb1 : Below w.heap.size w w1 := (Below.refl _ _).grown hgrow (Nat.le_refl _) (fun k h => by cases h)
  have HO := Lib.hid hown
  have HB := Lib.hid hb1
  clear hown hb1 hgrow
  go_wp2
  go_loopw [4] (fun iv wr => ToReqRel ls n w.heap.size w iv wr) (fun iv _ => n - (intOf iv).toNat)
  case atStart => exact ⟨0, [], _, Nat.zero_le _, rfl, rfl, rfl, HO.out, rfl, by simp [reqsC, OwnL], by simp [reqsC, blL], HB.out⟩
  case round =>
    obtain ⟨k, ys, cur, hk, rfl, hyl, hyp, ho, htk, how, hnd, hb⟩ := hrel
    have HYL := Lib.hid hyl
    have HYP := Lib.hid hyp
    have HO' := Lib.hid ho
    have HT := Lib.hid htk
    have HW := Lib.hid how
    have HND := Lib.hid hnd
    have HB' := Lib.hid hb
    clear hyl hyp ho htk how hnd hb
    by_cases hlt : k < n
    · obtain ⟨b, off, tk, ro, a0, c0, rfl, hbk, hx, q0, q1, f0⟩ := (H.out.kept HB'.out).one hlt
      have hst := reqSum_take hx
      dsimp only at hst
      have htl := reqSum_le (ls := ls) (k + 1)
      have z0 : ro.length ≤ 1048576 := by have := HL.out; omega
      have HF0 := Lib.hid f0
      have Z0 := Lib.hid z0
      have HX := Lib.hid hx
      clear f0 hx hst htl z0
      go_wp2_with fail
      refine (c_toReq tk a0 c0 ro _ HF0.out Z0.out).mono ?_
      rintro e w2 ⟨b0, rfl, o0, bl⟩
      have ho2 := req_row_kept HO'.out bl
      obtain ⟨z0, v0, y0⟩ := req_row_cell ho2 (k * 2) (by omega)
      obtain ⟨z1, v1, y1⟩ := req_row_cell ho2 (k * 2 + 1) (by omega)
      have O2 := Lib.hid ho2
      have OO := Lib.hid (ReqA.own_iff (x := ⟨⟨tk, ro⟩, b0, ro.length⟩).2 o0)
      have BL := Lib.hid bl
      clear ho2 o0  bl q0 q1
      go_wp2_with fail
      clear z0 y0 z1 y1
      go_roundw
      case rel =>
        have hlt0 : w.heap.size < wr.heap.size := (HO'.out.lt _ rfl).2
        obtain ⟨cur', hr, ht⟩ := req_store O2.out hlt (v0 := .int .i64 tk) (v1 := .slice b0 ro.length ro.length)
        have how2 : OwnL w2 (w.heap.size + 1) (reqsC (ys ++ [⟨⟨tk, ro⟩, b0, ro.length⟩])) := by
          rw [reqsC_snoc, OwnL_append]
          exact ⟨OwnL.kept HW.out BL.out, OwnL.base (by omega) _ OO.out⟩
        refine ⟨k + 1, ys ++ [⟨⟨tk, ro⟩, b0, ro.length⟩], cur', by omega, by go_num, by simp [HYL.out], ?_, hr, ?_,
          ((how2.far (p := ⟨w.heap.size, _, none⟩) (by simp) _).far (p := ⟨w.heap.size, _, none⟩) (by simp) _), ?_,
          (((HB'.out.trans (BL.out.mono HB'.out.size)).setCell (p := ⟨w.heap.size, _, none⟩) (Nat.le_refl _) _).setCell (p := ⟨w.heap.size, _, none⟩) (Nat.le_refl _) _)⟩
        · rw [List.take_add_one, HX.out, List.map_append, List.map_append, HYP.out]
          rfl
        · rw [ht, HT.out, reqsC_snoc, vs_append]
          rfl
        · rw [reqsC_snoc, blL_append]
          refine List.nodup_append.2 ⟨HND.out, ReqA.nodup , ?_⟩
          intro x hx y hy e
          subst e
          exact apart_new HW.out OO.out x hx hy
      case measure => simp [intOf]; omega
    · obtain rfl : k = n := by omega
      go_wp2
      go_ret
      have ho := HO'.out
      have hcur : cur = vs (reqsC ys) := by
        rw [← HT.out, ← ho.1, List.take_length]
      rw [hcur] at ho
      have hlt : w.heap.size < wr.heap.size := (ho.lt _ rfl).2
      refine ⟨w.heap.size, ys, rfl, HYL.out, by rw [HYP.out]; rw [← H.out.1, List.take_length], ?_, ?_, HB'.out⟩
      · simp only [OwnL, Cl.Own, and_true]
        exact ⟨ho, OwnL.base (by omega) _ HW.out⟩
      · simp only [blL, Cl.bl, List.append_nil]
        refine List.nodup_append.2 ⟨by simp [blk], HND.out, ?_⟩
        intro x hx y hy e
        have := (OwnL.lt _ HW.out y hy).1
        simp [blk] at hx
        omega
theorem req_can_at {ls ls' : List ReqA} {i : Nat} {x y : ReqA} (hp : ls.map (fun x => x.p.can) = ls'.map (fun x => x.p.can)) (hx : ls[i]? = some x) (hy : ls'[i]? = some y) : x.p.can = y.p.can := by
  have h1 : (ls.map (fun x => x.p.can))[i]? = (ls'.map (fun x => x.p.can))[i]? := by rw [hp]
  simpa [hx, hy] using h1
def EqReqsRel (n : Nat) (w : World) (iv : Value) (wr : World) : Prop := ∃ k : Nat, k ≤ n ∧ iv = .int .i64 k ∧ Below w.heap.size w wr
set_option maxRecDepth 20000 in
set_option maxHeartbeats 1000000 in
theorem c_eqReqs (g g' : Option Addr) (cap cap' n : Nat) (ls ls' : List ReqA) (w : World) (h : ReqsAt w g n cap ls) (h' : ReqsAt w g' n cap' ls') (hp : ls.map (fun x => x.p.can) = ls'.map (fun x => x.p.can)) :
    Calls Try.prog 33 #[.slice g n cap, .slice g' n cap'] w fun e w' => e = .returned (.bool true) ∧ Below w.heap.size w w' := by
  have hnm : n ≤ 9223372036854775807 := by have h1 := h.2.1; have h2 := h.2.2.1; unfold maxLen at h2; omega
  have H := Lib.hid h
  have H' := Lib.hid h'
  have HP := Lib.hid hp
  clear h h' hp
  go_enter Try.func33, Try.ntmps33
  go_wp2
  go_loopw [5] (fun iv wr => EqReqsRel n w iv wr) (fun iv _ => n - (intOf iv).toNat)
  case atStart => exact ⟨0, Nat.zero_le _, rfl, Below.refl _ _⟩
  case round =>
    obtain ⟨k, hk, rfl, hb⟩ := hrel
    have HB := Lib.hid hb
    clear hb
    by_cases hlt : k < n
    · obtain ⟨b, off, tk, ro, a0, c0, rfl, hbk, hx, q0, q1, f0⟩ := (H.out.kept HB.out).one hlt
      obtain ⟨b', off', tk', ro', a0', c0', rfl, hbk', hx', q0', q1', f0'⟩ := (H'.out.kept HB.out).one hlt
      have hc := req_can_at HP.out hx hx'
      simp only [ReqP.can, ReqP.mk.injEq] at hc
      obtain ⟨rfl, hc0⟩ := hc
      have HF0 := Lib.hid f0
      have HF0' := Lib.hid f0'
      have HC0 := Lib.hid hc0
      clear f0 f0' hc0 hx hx'
      have hlt' : (k : Int) < (n : Int) := by omega
      have hk0 : (0 : Int) ≤ (k : Int) := by omega
      have BD := Lib.hid ((Below.refl wr.heap.size wr).drew)
      go_wp2_with fail
      go_region_held3 (fun w' => w'.cell? ⟨b, off + k * 2, none⟩ = some (.int .i64 tk) ∧ w'.cell? ⟨b, off + k * 2 + 1, none⟩ = some (.slice a0 ro.length c0) ∧ w'.cell? ⟨b', off' + k * 2, none⟩ = some (.int .i64 tk) ∧ w'.cell? ⟨b', off' + k * 2 + 1, none⟩ = some (.slice a0' ro'.length c0')) (go_keep)
        (first
          | (go_at_call 100
             refine (c_eqReq tk a0 a0' c0 c0' ro ro' _ (HF0.out.kept BD.out) (HF0'.out.kept BD.out) HC0.out).mono ?_
             rintro e w2 ⟨rfl, bl⟩
             have HB2 := Lib.hid (HB.out.drew.trans (bl.mono HB.out.size))
             have r0 := (bl.cell (p := ⟨b, off + k * 2, none⟩) hbk).trans q0
             have r0' := (bl.cell (p := ⟨b', off' + k * 2, none⟩) hbk').trans q0'
             have r1 := (bl.cell (p := ⟨b, off + k * 2 + 1, none⟩) hbk).trans q1
             have r1' := (bl.cell (p := ⟨b', off' + k * 2 + 1, none⟩) hbk').trans q1'
             clear bl))
      all_goals
        go_wp2_with fail
        go_roundw
        case rel => exact ⟨k + 1, by omega, by go_num, HB2.out⟩
        case measure => simp [intOf]; omega
    · obtain rfl : k = n := by omega
      go_wp2
      go_ret
      exact ⟨rfl, HB.out⟩
end Go.Proofs.Ytnkmgeiehhonkaa
