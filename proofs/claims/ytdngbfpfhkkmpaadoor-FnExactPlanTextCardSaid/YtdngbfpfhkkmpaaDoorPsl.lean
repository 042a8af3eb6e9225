/-
  Words for lists of PlanStep: sizes, copies, comparing, marking and looking again. Conditions: the cells can be read.
-/
import Derived.Test.YtdngbfpfhkkmpaaDoorPst
namespace Go.Proofs.YtdngbfpfhkkmpaaDoor
open Go.RowKit
set_option linter.unusedVariables false
set_option linter.unusedSimpArgs false

/-- the cells of a list -/
def pstsC (ls : List PstA) : List Cl := ls.flatMap PstA.cs
def pstSum (ps : List PstP) : Nat := (ps.map PstP.n).sum
theorem pstsC_length (ls : List PstA) : (pstsC ls).length = ls.length * 7 := by
  induction ls with
  | nil => rfl
  | cons l ls ih => simp only [pstsC, List.flatMap_cons, List.length_append, List.length_cons, PstA.cs_len] at ih ⊢; omega
theorem pstsC_get (ls : List PstA) (i : Nat) (x : PstA) (h : ls[i]? = some x) (j : Nat) (hj : j < 7) : (pstsC ls)[i * 7 + j]? = x.cs[j]? := by
  induction ls generalizing i with
  | nil => simp at h
  | cons l ls ih =>
    simp only [pstsC, List.flatMap_cons] at ih ⊢
    cases i with
    | zero =>
      simp only [List.getElem?_cons_zero, Option.some.injEq] at h
      subst h
      rw [Nat.zero_mul, Nat.zero_add, List.getElem?_append_left (by rw [PstA.cs_len]; exact hj)]
    | succ i =>
      simp only [List.getElem?_cons_succ] at h
      rw [List.getElem?_append_right (by rw [PstA.cs_len]; omega), PstA.cs_len, show (i + 1) * 7 + j - 7 = i * 7 + j by omega]
      exact ih i h
def PstsAt (w : World) (g : Option Addr) (n cap : Nat) (ls : List PstA) : Prop :=
  ls.length = n ∧ n ≤ cap ∧ cap ≤ maxLen ∧ AtL w (pstsC ls) ∧ (n = 0 ∨ ∃ b off, g = some ⟨b, off, none⟩ ∧ b < w.heap.size ∧ ∀ i, i < n * 7 → w.cell? ⟨b, off + i, none⟩ = (vs (pstsC ls))[i]?)
theorem pstsAt_cl {w : World} {t : TypeId} {g : Option Addr} {c : Nat} {ls : List PstA} : (Cl.sl t 7 ls.length g c (pstsC ls)).At w ↔ PstsAt w g ls.length c ls := by
  simp only [Cl.At, PstsAt, pstsC_length, true_and]
  constructor
  · rintro ⟨⟨h1, h2, h3⟩, h4⟩; exact ⟨h1, h2, h4, h3⟩
  · rintro ⟨h1, h2, h4, h3⟩; exact ⟨⟨h1, h2, h3⟩, h4⟩
theorem pstsAt_own {w : World} {B : Nat} {t : TypeId} {g : Option Addr} {n c : Nat} {ys : List PstA} (hl : ys.length = n) (h : OwnL w B [.sl t 7 n g c (pstsC ys)]) : PstsAt w g n c ys := by
  subst hl
  exact pstsAt_cl.1 ((OwnL.at _ h).1)
theorem pst_can_of {xs ys : List PstA} (h : xs.map PstA.p = ys.map PstA.p) : xs.map (fun x => x.p.can) = ys.map (fun x => x.p.can) := by
  have h1 : (xs.map PstA.p).map PstP.can = (ys.map PstA.p).map PstP.can := by rw [h]
  simpa [List.map_map, Function.comp_def] using h1
theorem PstsAt.kept {w w' : World} {g : Option Addr} {n cap : Nat} {ls : List PstA} (h : PstsAt w g n cap ls) (hb : Below w.heap.size w w') : PstsAt w' g n cap ls := by
  obtain ⟨rfl, r⟩ := h
  have h : PstsAt w g ls.length cap ls := ⟨rfl, r⟩
  exact pstsAt_cl.1 (Cl.At.kept hb _ (pstsAt_cl (t := 0).2 h))
theorem PstsAt.one {w : World} {g : Option Addr} {n cap : Nat} {ls : List PstA} (h : PstsAt w g n cap ls) {i : Nat} (hi : i < n) : ∃ (b off : Nat) (kd : Int) (ii : Int) (oo : Int) (ws : List Nat) (bs : List Nat) (ss : List Nat) (rl : Bool) (a0 : Option Addr) (c0 : Nat) (a1 : Option Addr) (c1 : Nat) (a2 : Option Addr) (c2 : Nat), g = some ⟨b, off, none⟩ ∧ b < w.heap.size ∧ ls[i]? = some ⟨⟨kd, ii, oo, ws, bs, ss, rl⟩, a0, c0, a1, c1, a2, c2⟩ ∧
    w.cell? ⟨b, off + i * 7, none⟩ = some (.int .i64 kd) ∧ w.cell? ⟨b, off + i * 7 + 1, none⟩ = some (.int .i64 ii) ∧ w.cell? ⟨b, off + i * 7 + 2, none⟩ = some (.int .i64 oo) ∧ w.cell? ⟨b, off + i * 7 + 3, none⟩ = some (.slice a0 ws.length c0) ∧ w.cell? ⟨b, off + i * 7 + 4, none⟩ = some (.slice a1 bs.length c1) ∧ w.cell? ⟨b, off + i * 7 + 5, none⟩ = some (.slice a2 ss.length c2) ∧ w.cell? ⟨b, off + i * 7 + 6, none⟩ = some (.bool rl) ∧
    IsFloats .f32 w a0 ws.length c0 ws ∧ IsFloats .f32 w a1 bs.length c1 bs ∧ IsFloats .f32 w a2 ss.length c2 ss := by
  obtain ⟨hl, _, _, ha, hc⟩ := h
  have hx : ls[i]? = some ls[i] := List.getElem?_eq_getElem (by omega)
  obtain ⟨x, hx'⟩ : ∃ x, ls[i] = x := ⟨_, rfl⟩
  rw [hx'] at hx
  rcases hc with h0 | ⟨b, off, rfl, hb, hc⟩
  · omega
  · have hcell : ∀ j, j < 7 → w.cell? ⟨b, off + i * 7 + j, none⟩ = (vs x.cs)[j]? := by
      intro j hj
      have h1 := hc (i * 7 + j) (by omega)
      rw [← Nat.add_assoc] at h1
      rw [h1]
      simp only [vs, List.getElem?_map, pstsC_get ls i x hx j hj]
    have hat : AtL w x.cs := by
      rw [AtL_iff] at ha ⊢
      intro c hcm
      exact ha c (List.mem_flatMap.2 ⟨x, List.mem_of_getElem? hx, hcm⟩)
    rw [PstA.at_iff] at hat
    obtain ⟨⟨kd, ii, oo, ws, bs, ss, rl⟩, a0, c0, a1, c1, a2, c2⟩ := x
    exact ⟨b, off, kd, ii, oo, ws, bs, ss, rl, a0, c0, a1, c1, a2, c2, rfl, hb, hx, hcell 0 (by omega), hcell 1 (by omega), hcell 2 (by omega), hcell 3 (by omega), hcell 4 (by omega), hcell 5 (by omega), hcell 6 (by omega), hat.1, hat.2.1, hat.2.2⟩
theorem PstsAt.floats {w : World} {g : Option Addr} {n cap : Nat} {ls : List PstA} (h : PstsAt w g n cap ls) {i : Nat} {x : PstA} (hx : ls[i]? = some x) : IsFloats .f32 w x.a0 x.p.ws.length x.c0 x.p.ws ∧ IsFloats .f32 w x.a1 x.p.bs.length x.c1 x.p.bs ∧ IsFloats .f32 w x.a2 x.p.ss.length x.c2 x.p.ss := by
  have ha := h.2.2.2.1
  rw [AtL_iff] at ha
  exact PstA.at_iff.1 (AtL_iff.2 fun c hc => ha c (List.mem_flatMap.2 ⟨x, List.mem_of_getElem? hx, hc⟩))
theorem pstSum_append (a b : List PstP) : pstSum (a ++ b) = pstSum a + pstSum b := by simp [pstSum]
theorem pstSum_take {ls : List PstA} {i : Nat} {x : PstA} (h : ls[i]? = some x) : pstSum ((ls.take (i + 1)).map PstA.p) = pstSum ((ls.take i).map PstA.p) + (x.p.ws.length + x.p.bs.length + x.p.ss.length) := by
  rw [List.take_add_one, h, List.map_append, pstSum_append]
  simp [pstSum, PstP.n]
theorem pstSum_le {ls : List PstA} (i : Nat) : pstSum ((ls.take i).map PstA.p) ≤ pstSum (ls.map PstA.p) := by
  have h : ls.map PstA.p = (ls.take i).map PstA.p ++ (ls.drop i).map PstA.p := by rw [← List.map_append, List.take_append_drop]
  rw [h, pstSum_append]
  omega
set_option maxRecDepth 100000 in
open Go.ChangeShapes Go.WideShapes Go.Deep in
theorem open_Psts {H : Type} {enc : TypeId × Value → H} {W : World} {base b0 : Nat} {re : Reach} {held : Bool} {v : Value} {d : DataW H} {p : List MemPlace}
    (hv : Value.okWide Tryd.prog W re b0 22 v) (h : DataW.Trod enc Tryd.prog W base (fun _ => true) held 22 v d p) :
    ∃ (g : Option Addr) (c : Nat) (ls : List PstA), v = .slice g ls.length c ∧ PstsAt W g ls.length c ls := by
  obtain ⟨a, len, cap, rfl⟩ := okWide_slice Tryd.underlying22 hv
  obtain ⟨fuel, hf⟩ := h
  obtain ⟨l, e, ha, ht⟩ := opened 4 _ _ _ _ _ (show tyOf Tryd.prog 4 22 = some [.sl 50 7 [.int, .int, .int, .sl 90 1 [.f32], .sl 90 1 [.f32], .sl 90 1 [.f32], .bool]] by kernel_rfl) hf
  simp only [typedL, Cl.typed.eq_4] at ht
  obtain ⟨c0, l0, rfl, ⟨g, cp, ls, rfl, hl⟩, rfl⟩ := ht
  obtain ⟨rs, e1, e2⟩ := typed_list PstA.cs (fun l h => PstA.typed h) ls hl
  rw [e1, ← e2] at ha e
  simp only [Value.cells, vs, List.map_cons, List.map_nil, Cl.v, List.cons.injEq, Value.slice.injEq, and_true] at e
  obtain ⟨rfl, rfl, rfl⟩ := e
  exact ⟨_, _, rs, rfl, pstsAt_cl.1 (by simpa [AtL, pstsC] using ha)⟩
def SzPstRel (ls : List PstA) (l : Nat) (w : World) (lv iv : Value) (wr : World) : Prop :=
  ∃ j : Nat, j ≤ ls.length ∧ iv = .int .i64 j ∧ pstSum ((ls.take j).map PstA.p) ≤ l ∧ lv = .int .i64 ((l - pstSum ((ls.take j).map PstA.p) : Nat) : Int) ∧ Below w.heap.size w wr
set_option maxRecDepth 20000 in
set_option maxHeartbeats 1000000 in
theorem c_szPsts (g : Option Addr) (cap n l r : Nat) (ls : List PstA) (w : World) (h : PstsAt w g n cap ls) (hl : l ≤ 1048576) (hs : n + pstSum (ls.map PstA.p) ≤ l) (hr : l - (n + pstSum (ls.map PstA.p)) = r) :
    Calls Tryd.prog 9 #[.slice g n cap, .int .i64 l] w fun e w' => e = .returned (.int .i64 (r : Int)) ∧ Below w.heap.size w w' := by
  have hln : ls.length = n := h.1
  have H := Lib.hid h
  have HS := Lib.hid hs
  have HR := Lib.hid hr
  have HN := Lib.hid hln
  obtain ⟨l0, e0⟩ : ∃ l0, l - n = l0 := ⟨_, rfl⟩
  have E0 := Lib.hid e0
  have hnl : (n : Int) ≤ (l : Int) := by omega
  have hl0 : l0 ≤ 1048576 := by omega
  have hw : (l : Int) - (n : Int) = (l0 : Int) := by omega
  have HW := Lib.hid hw
  have h0 : (0 : Int) ≤ (l0 : Int) := by omega
  clear h hs hr hln e0 hw
  go_enter Tryd.func9, Tryd.ntmps9
  go_wp2_with fail
  rw [HW.out]
  go_wp2_with fail
  go_loopw [1, 5] (fun lv iv wr => SzPstRel ls l0 w lv iv wr) (fun _ iv _ => n - (intOf iv).toNat)
  case atStart => exact ⟨0, Nat.zero_le _, rfl, by simp [pstSum], by simp [pstSum], Below.refl _ _⟩
  case round =>
    obtain ⟨j, hj, rfl, hle, rfl, hb⟩ := hrel
    have HB := Lib.hid hb
    have HLE := Lib.hid hle
    have HJ := Lib.hid hj
    rw [HN.out] at hj
    obtain ⟨lj, hlj⟩ : ∃ lj, l0 - pstSum ((ls.take j).map PstA.p) = lj := ⟨_, rfl⟩
    have HLJ := Lib.hid hlj
    rw [hlj]
    have hlj0 : (0 : Int) ≤ (lj : Int) := by omega
    clear hb hle hlj
    by_cases hlt : j < n
    · obtain ⟨b, off, kd, ii, oo, ws, bs, ss, rl, a0, c0, a1, c1, a2, c2, rfl, hbk, hx, q0, q1, q2, q3, q4, q5, q6, f0, f1, f2⟩ := (H.out.kept HB.out).one hlt
      have HX := Lib.hid hx
      have hst := pstSum_take hx
      dsimp only at hst
      have htl := pstSum_le (ls := ls) (j + 1)
      obtain ⟨l1, hl1⟩ : ∃ l1, lj - (ws.length + bs.length + ss.length) = l1 := ⟨_, rfl⟩
      have hfit : ws.length + bs.length + ss.length ≤ lj := by have := HS.out; have := E0.out; have := HLJ.out; have := HLE.out; omega
      have hnew : l1 = l0 - pstSum ((ls.take (j + 1)).map PstA.p) := by have := HLJ.out; omega
      have hle2 : pstSum ((ls.take (j + 1)).map PstA.p) ≤ l0 := by have := HS.out; have := E0.out; omega
      have HL1 := Lib.hid hl1
      have HF := Lib.hid hfit
      have HNW := Lib.hid hnew
      have HLE2 := Lib.hid hle2
      have hl1p : (0 : Int) ≤ (l1 : Int) := by omega
      have hljm : lj ≤ 1048576 := by omega
      clear f0 f1 f2 hx hst htl hl1 hfit hnew hle2
      go_wp2_with fail
      refine (c_szPst kd ii oo rl a0 a1 a2 ws.length bs.length ss.length c0 c1 c2 lj l1 _ HF.out hljm HL1.out).mono ?_
      rintro e w2 ⟨rfl, bl⟩
      have HB2 := Lib.hid (Below.next HB.out bl)
      clear bl
      go_wp2_with fail
      go_roundw
      case rel => exact ⟨j + 1, by have := HN.out; omega, by go_num, HLE2.out, by rw [HNW.out], HB2.out⟩
      case measure => simp [intOf]; omega
    · obtain rfl : j = n := by omega
      have hall : lj = r := by
        have h1 := HLJ.out; have h2 := HN.out; have h3 := HR.out; have h4 := E0.out
        rw [← h2, List.take_length] at h1
        omega
      go_wp2_with fail
      go_ret
      exact ⟨ret_i (by rw [hall]), HB.out⟩
set_option maxRecDepth 20000 in
set_option maxHeartbeats 1000000 in
theorem c_szPsts_no (g : Option Addr) (cap n l : Nat) (ls : List PstA) (w : World) (h : PstsAt w g n cap ls) (hl : l ≤ 1048576) (hs : l < n + pstSum (ls.map PstA.p)) :
    Calls Tryd.prog 9 #[.slice g n cap, .int .i64 l] w fun e w' => e = .returned (.int .i64 (-1)) ∧ Below w.heap.size w w' := by
  have hln : ls.length = n := h.1
  have hnm : n ≤ 9223372036854775807 := by have h1 := h.2.1; have h2 := h.2.2.1; unfold maxLen at h2; omega
  have H := Lib.hid h
  have HS := Lib.hid hs
  have HN := Lib.hid hln
  by_cases hq : n ≤ l
  case neg =>
    have h1 : (l : Int) < (n : Int) := by omega
    clear h hs hln hq
    go_enter Tryd.func9, Tryd.ntmps9
    go_wp2
    go_ret
    exact ⟨rfl, Below.refl _ _⟩
  case pos =>
  obtain ⟨l0, e0⟩ : ∃ l0, l - n = l0 := ⟨_, rfl⟩
  have E0 := Lib.hid e0
  have hnl : (n : Int) ≤ (l : Int) := by omega
  have hl0 : l0 ≤ 1048576 := by omega
  have hw : (l : Int) - (n : Int) = (l0 : Int) := by omega
  have HW := Lib.hid hw
  have h0 : (0 : Int) ≤ (l0 : Int) := by omega
  have HS0 := Lib.hid (show l0 < pstSum (ls.map PstA.p) by omega)
  clear h hs hln e0 hw hq
  go_enter Tryd.func9, Tryd.ntmps9
  go_wp2_with fail
  rw [HW.out]
  go_wp2_with fail
  go_loopw [1, 5] (fun lv iv wr => SzPstRel ls l0 w lv iv wr) (fun _ iv _ => n - (intOf iv).toNat)
  case atStart => exact ⟨0, Nat.zero_le _, rfl, by simp [pstSum], by simp [pstSum], Below.refl _ _⟩
  case round =>
    obtain ⟨j, hj, rfl, hle, rfl, hb⟩ := hrel
    have HB := Lib.hid hb
    have HLE := Lib.hid hle
    have HJ := Lib.hid hj
    rw [HN.out] at hj
    obtain ⟨lj, hlj⟩ : ∃ lj, l0 - pstSum ((ls.take j).map PstA.p) = lj := ⟨_, rfl⟩
    have HLJ := Lib.hid hlj
    rw [hlj]
    have hlj0 : (0 : Int) ≤ (lj : Int) := by omega
    have hljm : lj ≤ 1048576 := by omega
    clear hb hle hlj
    by_cases hlt : j < n
    · obtain ⟨b, off, kd, ii, oo, ws, bs, ss, rl, a0, c0, a1, c1, a2, c2, rfl, hbk, hx, q0, q1, q2, q3, q4, q5, q6, f0, f1, f2⟩ := (H.out.kept HB.out).one hlt
      have hst := pstSum_take hx
      dsimp only at hst
      have hm0 : ws.length ≤ 9223372036854775807 := by have h1 := f0.1; have h2 := f0.2.1; unfold maxLen at h2; omega
      have hm1 : bs.length ≤ 9223372036854775807 := by have h1 := f1.1; have h2 := f1.2.1; unfold maxLen at h2; omega
      have hm2 : ss.length ≤ 9223372036854775807 := by have h1 := f2.1; have h2 := f2.2.1; unfold maxLen at h2; omega
      by_cases hfit : ws.length + bs.length + ss.length ≤ lj
      · obtain ⟨l1, hl1⟩ : ∃ l1, lj - (ws.length + bs.length + ss.length) = l1 := ⟨_, rfl⟩
        have hnew : l1 = l0 - pstSum ((ls.take (j + 1)).map PstA.p) := by have := HLJ.out; omega
        have hle2 : pstSum ((ls.take (j + 1)).map PstA.p) ≤ l0 := by have := HLJ.out; have := HLE.out; omega
        have HL1 := Lib.hid hl1
        have HF := Lib.hid hfit
        have HNW := Lib.hid hnew
        have HLE2 := Lib.hid hle2
        have hl1p : (0 : Int) ≤ (l1 : Int) := by omega
        clear f0 f1 f2 hx hst hl1 hfit hnew hle2
        go_wp2_with fail
        refine (c_szPst kd ii oo rl a0 a1 a2 ws.length bs.length ss.length c0 c1 c2 lj l1 _ HF.out hljm HL1.out).mono ?_
        rintro e w2 ⟨rfl, bl⟩
        have HB2 := Lib.hid (Below.next HB.out bl)
        clear bl
        go_wp2_with fail
        go_roundw
        case rel => exact ⟨j + 1, by have := HN.out; omega, by go_num, HLE2.out, by rw [HNW.out], HB2.out⟩
        case measure => simp [intOf]; omega
      · have HF := Lib.hid (show lj < ws.length + bs.length + ss.length by omega)
        clear f0 f1 f2 hx hst hfit
        go_wp2_with fail
        refine (c_szPst_no kd ii oo rl a0 a1 a2 ws.length bs.length ss.length c0 c1 c2 lj _ HF.out hljm hm0 hm1 hm2).mono ?_
        rintro e w2 ⟨rfl, bl⟩
        have HB2 := Lib.hid (Below.next HB.out bl)
        clear bl
        go_wp2_with fail
        go_ret
        exact ⟨rfl, HB2.out⟩
    · exfalso
      obtain rfl : j = n := by omega
      have h1 := HLE.out; have h2 := HN.out; have h3 := HS0.out
      rw [← h2, List.take_length] at h1
      omega
theorem info_pst : (Tryd.prog.info? 45).map (fun i => (i.zero, i.size, i.bytes)) = some (some (.agg #[.int .i64 0, .int .i64 0, .int .i64 0, .slice none 0 0, .slice none 0 0, .slice none 0 0, .bool false]), 7, 104) := by kernel_rfl
def RetPsts (ps : List PstP) (n : Nat) (w : World) (e : Ending) (w' : World) : Prop :=
  ∃ (g : Nat) (ys : List PstA), e = .returned (.slice (some ⟨g, 0, none⟩) n n) ∧ ys.length = n ∧ ys.map PstA.p = ps ∧ OwnL w' w.heap.size [.sl 45 7 n (some ⟨g, 0, none⟩) n (pstsC ys)] ∧ (blL [.sl 45 7 n (some ⟨g, 0, none⟩) n (pstsC ys)]).Nodup ∧ Below w.heap.size w w'
def ToPstRel (ls : List PstA) (n gd : Nat) (w : World) (iv : Value) (wr : World) : Prop :=
  ∃ (k : Nat) (ys : List PstA) (cur : List Value), k ≤ n ∧ iv = .int .i64 k ∧ ys.length = k ∧ ys.map PstA.p = (ls.take k).map PstA.p ∧ wr.ownsRow w.heap.size 45 7 (.slice (some ⟨gd, 0, none⟩) n n) n cur ∧
    cur.take (k * 7) = vs (pstsC ys) ∧ OwnL wr (gd + 1) (pstsC ys) ∧ (blL (pstsC ys)).Nodup ∧ Below w.heap.size w wr
theorem pst_row_kept {w w' : World} {B : Nat} {t : TypeId} {sz n : Nat} {v : Value} {xs : List Value} (h : w.ownsRow B t sz v n xs) (hb : Below w.heap.size w w') : w'.ownsRow B t sz v n xs :=
  h.kept (row := none) ⟨hb.os, hb.tape, hb.output, hb.size, fun j hj _ => hb.block j hj⟩ (by cases v.ownBlock <;> simp)
theorem pst_row_cell {w : World} {B : Nat} {t : TypeId} {sz n cap g : Nat} {xs : List Value} (h : w.ownsRow B t sz (.slice (some ⟨g, 0, none⟩) n cap) n xs) (j : Nat) (hj : j < n * sz) : w.frozen? ⟨g, j, none⟩ = false ∧ ∃ v, w.cell? ⟨g, j, none⟩ = some v := by
  refine ⟨h.frozenAt j, ?_⟩
  rw [h.cellAt j hj]
  exact ⟨_, List.getElem?_eq_getElem (by rw [h.1]; exact hj)⟩
theorem pst_store {w : World} {B : Nat} {t : TypeId} {n cap g k : Nat} {xs : List Value} {v0 v1 v2 v3 v4 v5 v6 : Value} (h : w.ownsRow B t 7 (.slice (some ⟨g, 0, none⟩) n cap) n xs) (hk : k < n) :
    ∃ ys, ((((((((w.setCell ⟨g, k * 7, none⟩ v0).setCell ⟨g, k * 7 + 1, none⟩ v1).setCell ⟨g, k * 7 + 2, none⟩ v2).setCell ⟨g, k * 7 + 3, none⟩ v3).setCell ⟨g, k * 7 + 4, none⟩ v4).setCell ⟨g, k * 7 + 5, none⟩ v5).setCell ⟨g, k * 7 + 6, none⟩ v6)).ownsRow B t 7 (.slice (some ⟨g, 0, none⟩) n cap) n ys ∧ ys.take ((k + 1) * 7) = xs.take (k * 7) ++ [v0, v1, v2, v3, v4, v5, v6] := by
  have hl := h.1
  have hkn : k * 7 + 7 ≤ n * 7 := by omega
  refine ⟨_, (((((((h.stored (k * 7) v0).1.stored (k * 7 + 1) v1).1.stored (k * 7 + 2) v2).1.stored (k * 7 + 3) v3).1.stored (k * 7 + 4) v4).1.stored (k * 7 + 5) v5).1.stored (k * 7 + 6) v6) |>.1, ?_⟩
  rw [show (k + 1) * 7 = k * 7 + 6 + 1 by omega, take_set_succ _ _ _ (by first | (simp; omega) | omega), take_set_succ _ _ _ (by first | (simp; omega) | omega), take_set_succ _ _ _ (by first | (simp; omega) | omega), take_set_succ _ _ _ (by first | (simp; omega) | omega), take_set_succ _ _ _ (by first | (simp; omega) | omega), take_set_succ _ _ _ (by first | (simp; omega) | omega), take_set_succ _ _ _ (by first | (simp; omega) | omega)]
  simp
theorem pstsC_snoc (ys : List PstA) (y : PstA) : pstsC (ys ++ [y]) = pstsC ys ++ y.cs := by simp [pstsC]
set_option maxRecDepth 20000 in
set_option maxHeartbeats 1000000 in
theorem c_toPsts (g : Option Addr) (cap n : Nat) (ls : List PstA) (w : World) (h : PstsAt w g n cap ls) (hl : n + pstSum (ls.map PstA.p) ≤ 1048576) :
    Calls Tryd.prog 12 #[.slice g n cap] w (RetPsts (ls.map PstA.p) n w) := by
  have hnm : n ≤ maxLen := by have h1 := h.2.1; have h2 := h.2.2.1; omega
  have hn1 : n ≤ 1048576 := by omega
  obtain ⟨i0, hi, hz0, hz1, hz2⟩ := info_parts info_pst
  have HI := Lib.hid hi
  have HZ0 := Lib.hid hz0
  have HZ1 := Lib.hid hz1
  have HZ2 := Lib.hid hz2
  have H := Lib.hid h
  have HL := Lib.hid hl
  have HM := Lib.hid hnm
  clear h hi hz0 hz1 hz2 hl hnm
  go_enter Tryd.func12, Tryd.ntmps12
  go_wp2_with (at_make; refine wpList_make_full _ rfl _ _ 28 rfl w.heap.size 45 i0 (.agg #[.int .i64 0, .int .i64 0, .int .i64 0, .slice none 0 0, .slice none 0 0, .slice none 0 0, .bool false]) 7 Tryd.underlying28 HI.out HZ0.out HZ1.out _ _ _ _ n rfl rfl rfl rfl ?c1 ?c2 ?c3 ?_)
  case c1 => rw [HZ2.out]; omega
  case c2 => exact HM.out
  case c3 => exact Nat.le_refl _
  intro w1 hown hgrow
  have hb1 : Below w.heap.size w w1 := (Below.refl _ _).grown hgrow (Nat.le_refl _) (fun k h => by cases h)
  have HO := Lib.hid hown
  have HB := Lib.hid hb1
  clear hown hb1 hgrow
  go_wp2
  go_loopw [4] (fun iv wr => ToPstRel ls n w.heap.size w iv wr) (fun iv _ => n - (intOf iv).toNat)
  case atStart => exact ⟨0, [], _, Nat.zero_le _, rfl, rfl, rfl, HO.out, rfl, by simp [pstsC, OwnL], by simp [pstsC, blL], HB.out⟩
  case round =>
    obtain ⟨k, ys, cur, hk, rfl, hyl, hyp, ho, htk, how, hnd, hb⟩ := hrel
    have HYL := Lib.hid hyl
    have HYP := Lib.hid hyp
    have HO' := Lib.hid ho
    have HT := Lib.hid htk
    have HW := Lib.hid how
    have HND := Lib.hid hnd
    have HB' := Lib.hid hb
    clear hyl hyp ho htk how hnd hb
    by_cases hlt : k < n
    · obtain ⟨b, off, kd, ii, oo, ws, bs, ss, rl, a0, c0, a1, c1, a2, c2, rfl, hbk, hx, q0, q1, q2, q3, q4, q5, q6, f0, f1, f2⟩ := (H.out.kept HB'.out).one hlt
      have hst := pstSum_take hx
      dsimp only at hst
      have htl := pstSum_le (ls := ls) (k + 1)
      have z0 : ws.length ≤ 1048576 := by have := HL.out; omega
      have HF0 := Lib.hid f0
      have Z0 := Lib.hid z0
      have z1 : bs.length ≤ 1048576 := by have := HL.out; omega
      have HF1 := Lib.hid f1
      have Z1 := Lib.hid z1
      have z2 : ss.length ≤ 1048576 := by have := HL.out; omega
      have HF2 := Lib.hid f2
      have Z2 := Lib.hid z2
      have HX := Lib.hid hx
      clear f0 f1 f2 hx hst htl z0 z1 z2
      go_wp2_with fail
      refine (c_toPst kd ii oo rl a0 a1 a2 c0 c1 c2 ws bs ss _ HF0.out Z0.out HF1.out Z1.out HF2.out Z2.out).mono ?_
      rintro e w2 ⟨b0, b1, b2, rfl, o0, o1, o2, hap01, hap02, hap12, bl⟩
      have ho2 := pst_row_kept HO'.out bl
      obtain ⟨z0, v0, y0⟩ := pst_row_cell ho2 (k * 7) (by omega)
      obtain ⟨z1, v1, y1⟩ := pst_row_cell ho2 (k * 7 + 1) (by omega)
      obtain ⟨z2, v2, y2⟩ := pst_row_cell ho2 (k * 7 + 2) (by omega)
      obtain ⟨z3, v3, y3⟩ := pst_row_cell ho2 (k * 7 + 3) (by omega)
      obtain ⟨z4, v4, y4⟩ := pst_row_cell ho2 (k * 7 + 4) (by omega)
      obtain ⟨z5, v5, y5⟩ := pst_row_cell ho2 (k * 7 + 5) (by omega)
      obtain ⟨z6, v6, y6⟩ := pst_row_cell ho2 (k * 7 + 6) (by omega)
      have O2 := Lib.hid ho2
      have OO := Lib.hid (PstA.own_iff (x := ⟨⟨kd, ii, oo, ws, bs, ss, rl⟩, b0, ws.length, b1, bs.length, b2, ss.length⟩).2 ⟨o0, o1, o2⟩)
      have HAP01 := Lib.hid hap01
      have HAP02 := Lib.hid hap02
      have HAP12 := Lib.hid hap12
      have BL := Lib.hid bl
      clear ho2 o0 o1 o2 hap01 hap02 hap12 bl q0 q1 q2 q3 q4 q5 q6
      go_wp2_with fail
      clear z0 y0 z1 y1 z2 y2 z3 y3 z4 y4 z5 y5 z6 y6
      go_roundw
      case rel =>
        have hlt0 : w.heap.size < wr.heap.size := (HO'.out.lt _ rfl).2
        obtain ⟨cur', hr, ht⟩ := pst_store O2.out hlt (v0 := .int .i64 kd) (v1 := .int .i64 ii) (v2 := .int .i64 oo) (v3 := .slice b0 ws.length ws.length) (v4 := .slice b1 bs.length bs.length) (v5 := .slice b2 ss.length ss.length) (v6 := .bool rl)
        have how2 : OwnL w2 (w.heap.size + 1) (pstsC (ys ++ [⟨⟨kd, ii, oo, ws, bs, ss, rl⟩, b0, ws.length, b1, bs.length, b2, ss.length⟩])) := by
          rw [pstsC_snoc, OwnL_append]
          exact ⟨OwnL.kept HW.out BL.out, OwnL.base (by omega) _ OO.out⟩
        refine ⟨k + 1, ys ++ [⟨⟨kd, ii, oo, ws, bs, ss, rl⟩, b0, ws.length, b1, bs.length, b2, ss.length⟩], cur', by omega, by go_num, by simp [HYL.out], ?_, hr, ?_,
          (((((((how2.far (p := ⟨w.heap.size, _, none⟩) (by simp) _).far (p := ⟨w.heap.size, _, none⟩) (by simp) _).far (p := ⟨w.heap.size, _, none⟩) (by simp) _).far (p := ⟨w.heap.size, _, none⟩) (by simp) _).far (p := ⟨w.heap.size, _, none⟩) (by simp) _).far (p := ⟨w.heap.size, _, none⟩) (by simp) _).far (p := ⟨w.heap.size, _, none⟩) (by simp) _), ?_,
          ((((((((HB'.out.trans (BL.out.mono HB'.out.size)).setCell (p := ⟨w.heap.size, _, none⟩) (Nat.le_refl _) _).setCell (p := ⟨w.heap.size, _, none⟩) (Nat.le_refl _) _).setCell (p := ⟨w.heap.size, _, none⟩) (Nat.le_refl _) _).setCell (p := ⟨w.heap.size, _, none⟩) (Nat.le_refl _) _).setCell (p := ⟨w.heap.size, _, none⟩) (Nat.le_refl _) _).setCell (p := ⟨w.heap.size, _, none⟩) (Nat.le_refl _) _).setCell (p := ⟨w.heap.size, _, none⟩) (Nat.le_refl _) _)⟩
        · rw [List.take_add_one, HX.out, List.map_append, List.map_append, HYP.out]
          rfl
        · rw [ht, HT.out, pstsC_snoc, vs_append]
          rfl
        · rw [pstsC_snoc, blL_append]
          refine List.nodup_append.2 ⟨HND.out, PstA.nodup HAP01.out HAP02.out HAP12.out, ?_⟩
          intro x hx y hy e
          subst e
          exact apart_new HW.out OO.out x hx hy
      case measure => simp [intOf]; omega
    · obtain rfl : k = n := by omega
      go_wp2
      go_ret
      have ho := HO'.out
      have hcur : cur = vs (pstsC ys) := by
        rw [← HT.out, ← ho.1, List.take_length]
      rw [hcur] at ho
      have hlt : w.heap.size < wr.heap.size := (ho.lt _ rfl).2
      refine ⟨w.heap.size, ys, rfl, HYL.out, by rw [HYP.out]; rw [← H.out.1, List.take_length], ?_, ?_, HB'.out⟩
      · simp only [OwnL, Cl.Own, and_true]
        exact ⟨ho, OwnL.base (by omega) _ HW.out⟩
      · simp only [blL, Cl.bl, List.append_nil]
        refine List.nodup_append.2 ⟨by simp [blk], HND.out, ?_⟩
        intro x hx y hy e
        have := (OwnL.lt _ HW.out y hy).1
        simp [blk] at hx
        omega
theorem pst_can_at {ls ls' : List PstA} {i : Nat} {x y : PstA} (hp : ls.map (fun x => x.p.can) = ls'.map (fun x => x.p.can)) (hx : ls[i]? = some x) (hy : ls'[i]? = some y) : x.p.can = y.p.can := by
  have h1 : (ls.map (fun x => x.p.can))[i]? = (ls'.map (fun x => x.p.can))[i]? := by rw [hp]
  simpa [hx, hy] using h1
def EqPstsRel (n : Nat) (w : World) (iv : Value) (wr : World) : Prop := ∃ k : Nat, k ≤ n ∧ iv = .int .i64 k ∧ Below w.heap.size w wr
set_option maxRecDepth 20000 in
set_option maxHeartbeats 1000000 in
theorem c_eqPsts (g g' : Option Addr) (cap cap' n : Nat) (ls ls' : List PstA) (w : World) (h : PstsAt w g n cap ls) (h' : PstsAt w g' n cap' ls') (hp : ls.map (fun x => x.p.can) = ls'.map (fun x => x.p.can)) :
    Calls Tryd.prog 17 #[.slice g n cap, .slice g' n cap'] w fun e w' => e = .returned (.bool true) ∧ Below w.heap.size w w' := by
  have hnm : n ≤ 9223372036854775807 := by have h1 := h.2.1; have h2 := h.2.2.1; unfold maxLen at h2; omega
  have H := Lib.hid h
  have H' := Lib.hid h'
  have HP := Lib.hid hp
  clear h h' hp
  go_enter Tryd.func17, Tryd.ntmps17
  go_wp2
  go_loopw [5] (fun iv wr => EqPstsRel n w iv wr) (fun iv _ => n - (intOf iv).toNat)
  case atStart => exact ⟨0, Nat.zero_le _, rfl, Below.refl _ _⟩
  case round =>
    obtain ⟨k, hk, rfl, hb⟩ := hrel
    have HB := Lib.hid hb
    clear hb
    by_cases hlt : k < n
    · obtain ⟨b, off, kd, ii, oo, ws, bs, ss, rl, a0, c0, a1, c1, a2, c2, rfl, hbk, hx, q0, q1, q2, q3, q4, q5, q6, f0, f1, f2⟩ := (H.out.kept HB.out).one hlt
      obtain ⟨b', off', kd', ii', oo', ws', bs', ss', rl', a0', c0', a1', c1', a2', c2', rfl, hbk', hx', q0', q1', q2', q3', q4', q5', q6', f0', f1', f2'⟩ := (H'.out.kept HB.out).one hlt
      have hc := pst_can_at HP.out hx hx'
      simp only [PstP.can, PstP.mk.injEq] at hc
      obtain ⟨rfl, rfl, rfl, hc0, hc1, hc2, rfl⟩ := hc
      have HF0 := Lib.hid f0
      have HF0' := Lib.hid f0'
      have HC0 := Lib.hid hc0
      have HF1 := Lib.hid f1
      have HF1' := Lib.hid f1'
      have HC1 := Lib.hid hc1
      have HF2 := Lib.hid f2
      have HF2' := Lib.hid f2'
      have HC2 := Lib.hid hc2
      clear f0 f1 f2 f0' f1' f2' hc0 hc1 hc2 hx hx'
      have hlt' : (k : Int) < (n : Int) := by omega
      have hk0 : (0 : Int) ≤ (k : Int) := by omega
      have BD := Lib.hid ((Below.refl wr.heap.size wr).drew)
      go_wp2_with fail
      go_region_held3 (fun w' => w'.cell? ⟨b, off + k * 7, none⟩ = some (.int .i64 kd) ∧ w'.cell? ⟨b, off + k * 7 + 1, none⟩ = some (.int .i64 ii) ∧ w'.cell? ⟨b, off + k * 7 + 2, none⟩ = some (.int .i64 oo) ∧ w'.cell? ⟨b, off + k * 7 + 3, none⟩ = some (.slice a0 ws.length c0) ∧ w'.cell? ⟨b, off + k * 7 + 4, none⟩ = some (.slice a1 bs.length c1) ∧ w'.cell? ⟨b, off + k * 7 + 5, none⟩ = some (.slice a2 ss.length c2) ∧ w'.cell? ⟨b, off + k * 7 + 6, none⟩ = some (.bool rl) ∧ w'.cell? ⟨b', off' + k * 7, none⟩ = some (.int .i64 kd) ∧ w'.cell? ⟨b', off' + k * 7 + 1, none⟩ = some (.int .i64 ii) ∧ w'.cell? ⟨b', off' + k * 7 + 2, none⟩ = some (.int .i64 oo) ∧ w'.cell? ⟨b', off' + k * 7 + 3, none⟩ = some (.slice a0' ws'.length c0') ∧ w'.cell? ⟨b', off' + k * 7 + 4, none⟩ = some (.slice a1' bs'.length c1') ∧ w'.cell? ⟨b', off' + k * 7 + 5, none⟩ = some (.slice a2' ss'.length c2') ∧ w'.cell? ⟨b', off' + k * 7 + 6, none⟩ = some (.bool rl)) (go_keep)
        (first
          | (go_at_call 31
             refine (c_eqPst kd ii oo rl a0 a0' a1 a1' a2 a2' c0 c0' c1 c1' c2 c2' ws ws' bs bs' ss ss' _ (HF0.out.kept BD.out) (HF0'.out.kept BD.out) HC0.out (HF1.out.kept BD.out) (HF1'.out.kept BD.out) HC1.out (HF2.out.kept BD.out) (HF2'.out.kept BD.out) HC2.out).mono ?_
             rintro e w2 ⟨rfl, bl⟩
             have HB2 := Lib.hid (HB.out.drew.trans (bl.mono HB.out.size))
             have r0 := (bl.cell (p := ⟨b, off + k * 7, none⟩) hbk).trans q0
             have r0' := (bl.cell (p := ⟨b', off' + k * 7, none⟩) hbk').trans q0'
             have r1 := (bl.cell (p := ⟨b, off + k * 7 + 1, none⟩) hbk).trans q1
             have r1' := (bl.cell (p := ⟨b', off' + k * 7 + 1, none⟩) hbk').trans q1'
             have r2 := (bl.cell (p := ⟨b, off + k * 7 + 2, none⟩) hbk).trans q2
             have r2' := (bl.cell (p := ⟨b', off' + k * 7 + 2, none⟩) hbk').trans q2'
             have r3 := (bl.cell (p := ⟨b, off + k * 7 + 3, none⟩) hbk).trans q3
             have r3' := (bl.cell (p := ⟨b', off' + k * 7 + 3, none⟩) hbk').trans q3'
             have r4 := (bl.cell (p := ⟨b, off + k * 7 + 4, none⟩) hbk).trans q4
             have r4' := (bl.cell (p := ⟨b', off' + k * 7 + 4, none⟩) hbk').trans q4'
             have r5 := (bl.cell (p := ⟨b, off + k * 7 + 5, none⟩) hbk).trans q5
             have r5' := (bl.cell (p := ⟨b', off' + k * 7 + 5, none⟩) hbk').trans q5'
             have r6 := (bl.cell (p := ⟨b, off + k * 7 + 6, none⟩) hbk).trans q6
             have r6' := (bl.cell (p := ⟨b', off' + k * 7 + 6, none⟩) hbk').trans q6'
             clear bl))
      all_goals
        go_wp2_with fail
        go_roundw
        case rel => exact ⟨k + 1, by omega, by go_num, HB2.out⟩
        case measure => simp [intOf]; omega
    · obtain rfl : k = n := by omega
      go_wp2
      go_ret
      exact ⟨rfl, HB.out⟩
end Go.Proofs.YtdngbfpfhkkmpaaDoor
