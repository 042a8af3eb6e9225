/-
  strings.Join with a space. Conditions: at most 1000 texts, each of at most 1000 bytes.
-/
import Derived.Test.YtdngbfpfhkkmpaaDoorBgr
import Derived.Test.YtdngbfpfhkkmpaaDoorCta
import Derived.Test.YtdngbfpfhkkmpaaDoorTls
namespace Go.Proofs.YtdngbfpfhkkmpaaDoor
open Go.RowKit Go.Deep Go.WideShapes Go.ChangeShapes
set_option linter.unusedVariables false
set_option linter.unusedSimpArgs false
attribute [local go_sem] txt_size

/-- texts with spaces between them -/
def js (ts : List (List UInt8)) : List UInt8 := (ts.flatMap fun t => 32 :: t).drop 1
theorem js_one (t : List UInt8) : js [t] = t := by simp [js]
theorem js_snoc {ts : List (List UInt8)} (t : List UInt8) (h : ts.length ≠ 0) : js (ts ++ [t]) = (js ts ++ [32]) ++ t := by
  cases ts with
  | nil => exact absurd rfl h
  | cons s r => simp [js]
theorem js_next {ts : List (List UInt8)} {k : Nat} {t : List UInt8} (h : ts[k]? = some t) (hk : k ≠ 0) : js (ts.take (k + 1)) = (js (ts.take k) ++ [32]) ++ t := by
  have hl : k < ts.length := (List.getElem?_eq_some_iff.1 h).1
  rw [List.take_add_one, h]
  exact js_snoc t (by rw [List.length_take]; omega)
theorem js_len {M : Nat} : ∀ {ts : List (List UInt8)}, (∀ t ∈ ts, t.length ≤ M) → (ts.flatMap fun t => (32 : UInt8) :: t).length ≤ ts.length * (M + 1)
  | [], _ => Nat.zero_le _
  | t :: r, h => by
    rw [List.flatMap_cons, List.length_append, List.length_cons, List.length_cons, Nat.succ_mul]
    have h1 := h t (List.mem_cons_self ..)
    have h2 := js_len (M := M) (ts := r) (fun x hx => h x (List.mem_cons_of_mem _ hx))
    omega
theorem js_take {M k : Nat} {ts : List (List UInt8)} (h : ∀ t ∈ ts, t.length ≤ M) (hk : k ≤ ts.length) : (js (ts.take k)).length ≤ k * (M + 1) := by
  have h1 := js_len (M := M) (ts := ts.take k) (fun t ht => h t (List.mem_of_mem_take ht))
  rw [List.length_take, Nat.min_eq_left hk] at h1
  unfold js
  rw [List.length_drop]
  omega
set_option maxRecDepth 20000 in
set_option maxHeartbeats 4000000 in
theorem c_joinSp (a : Option Addr) (n cap : Nat) (ts : List (List UInt8)) (w : World) (h : IsStrs w a n cap (ts.map strB)) (hn : n ≤ 1000) (hM : ∀ t ∈ ts, t.length ≤ 1000) :
    Calls Tryd.prog 14 #[.slice a n cap, .string ⟨#[32]⟩] w fun e w' => e = .returned (.string ⟨(js ts).toArray⟩) ∧ Below w.heap.size w w' := by
  have hln : ts.length = n := by have := h.1; rwa [List.length_map] at this
  have H := Lib.hid h
  have HN := Lib.hid hln
  have HMM := Lib.hid hM
  have HNN := Lib.hid hn
  have hnm : (n : Int) ≤ 1000 := by omega
  clear h hM hln
  by_cases h0 : n = 0
  · subst h0
    have HT := Lib.hid (show js ts = [] by rw [List.eq_nil_of_length_eq_zero HN.out]; rfl)
    go_enter Tryd.func14, Tryd.ntmps14
    go_wp2_with fail
    go_ret
    exact ⟨by rw [HT.out]; rfl, Below.refl _ _⟩
  by_cases h1 : n = 1
  · subst h1
    obtain ⟨b, off, y, rfl, hbk, hy, hc, _⟩ := H.out.one (show 0 < 1 by omega)
    obtain ⟨t, ht, rfl⟩ : ∃ t, ts[0]? = some t ∧ strB t = y := by
      rw [List.getElem?_map] at hy
      obtain ⟨l, h1, h2⟩ := Option.map_eq_some_iff.1 hy
      exact ⟨l, h1, h2⟩
    have HT := Lib.hid (show js ts = t by
      cases ts with
      | nil => cases ht
      | cons s r =>
        have hr : r = [] := List.eq_nil_of_length_eq_zero (by have := HN.out; rw [List.length_cons] at this; omega)
        subst hr
        obtain rfl := Option.some.inj ht
        exact js_one _)
    have hc : w.cell? ⟨b, off, none⟩ = some (.string (strB t)) := hc
    clear hy ht
    go_enter Tryd.func14, Tryd.ntmps14
    go_wp2_with fail
    go_ret
    exact ⟨by rw [HT.out]; rfl, Below.refl _ _⟩
  obtain ⟨m, rfl⟩ : ∃ m, n = m + 2 := ⟨n - 2, by omega⟩
  have hm0 : (0 : Int) ≤ (m : Int) := by omega
  have hm1 : (m : Int) ≤ 998 := by omega
  have hdv : (1 : Int) < 9223372036854775807 / ((m : Int) + 2 - 1) := by
    have : (2 : Int) ≤ 9223372036854775807 / ((m : Int) + 2 - 1) := Int.le_ediv_of_mul_le (by omega) (by omega)
    omega
  have HONE := Lib.hid (fun W (hb : Below w.heap.size w W) (k : Nat) (hk : k < m + 2) => show ∃ (b off : Nat) (t : List UInt8), a = some ⟨b, off, none⟩ ∧ ts[k]? = some t ∧ W.cell? ⟨b, off + k, none⟩ = some (.string ⟨t.toArray⟩) ∧ t.length ≤ 1000 by
    obtain ⟨b, off, y, e, hbk, hy, hc, _⟩ := (H.out.kept hb).one hk
    rw [List.getElem?_map] at hy
    obtain ⟨l, h1, h2⟩ := Option.map_eq_some_iff.1 hy
    subst h2
    exact ⟨b, off, l, e, h1, hc, HMM.out l (List.mem_of_getElem? h1)⟩)
  have HCAP := Lib.hid H.out.2.1
  clear h0 h1
  go_enter Tryd.func14, Tryd.ntmps14
  go_wp2_with fail
  go_loop [5, 41] (fun s i => ∃ (k tot : Nat), k ≤ m + 2 ∧ i = .int .i64 k ∧ s = .int .i64 tot ∧ 1 ≤ tot ∧ tot ≤ m + 1 + 1000 * k) (fun _ i => m + 2 - (intOf i).toNat)
  case atStart => exact ⟨0, m + 1, by omega, rfl, by go_num, by omega, by omega⟩
  case round =>
    obtain ⟨k, tot, hk, rfl, rfl, ht1, ht2⟩ := hrel
    have ht0 : (0 : Int) ≤ (tot : Int) := by omega
    have htb : (tot : Int) ≤ 1100000 := by omega
    by_cases hlt : k < m + 2
    · obtain ⟨b, off, t, rfl, hx, hc, hl⟩ := HONE.out w (Below.refl _ _) k hlt
      have hli : (t.length : Int) ≤ 1000 := by omega
      have hlt' : (k : Int) < (m : Int) + 2 := by omega
      have hov : ¬ 9223372036854775807 - (tot : Int) < (t.length : Int) := by omega
      go_wp2_with fail
      go_round
      case rel => exact ⟨k + 1, tot + t.length, by omega, by go_num, by go_num, by omega, by omega⟩
      case measure => simp [intOf]; omega
    · obtain rfl : k = m + 2 := by omega
      have hlt' : ¬ ((m : Int) + 2) < (m : Int) + 2 := by omega
      have HT1 := Lib.hid (And.intro ht1 (show tot ≤ 1100000 by omega))
      have HG := Lib.hid (c_bGrow w.heap.size tot w ht1 (by omega) rfl)
      have B0 := Lib.hid ((Below.refl w.heap.size w).alloc (Nat.le_refl _) (.cells #[.pointer none, .slice none 0 0] 70))
      clear ht1 ht2 hk
      go_wp2_with fail
      refine HG.out.mono ?_
      rintro e w2 ⟨rfl, hi, hb⟩
      have I2 := Lib.hid hi
      have B2 := Lib.hid (B0.out.trans hb)
      clear hi hb
      obtain ⟨b, off, t, rfl, hx, hc, hl⟩ := HONE.out w2 B2.out 0 (by omega)
      have hc : w2.cell? ⟨b, off, none⟩ = some (.string ⟨t.toArray⟩) := hc
      have HX := Lib.hid hx
      have HW := Lib.hid (c_bString w.heap.size w.heap.size [] t w2 I2.out (by rw [List.length_nil]; omega) B2.out.size)
      clear hx hl
      go_wp2_with fail
      refine HW.out.mono ?_
      rintro e w3 ⟨rfl, hi, hb⟩
      have I3 := Lib.hid (show IsB w3 w.heap.size w.heap.size (js (ts.take 1)) by
        rw [List.take_add_one, HX.out, List.take_zero]
        rw [show js ([] ++ (some t).toList) = t from js_one t]
        simpa using hi)
      have B3 := Lib.hid (B2.out.trans hb)
      clear hi hb hc
      have hcp : (m : Int) + 2 ≤ (cap : Int) := by have := HCAP.out; omega
      go_wp2_with fail
      go_loopw [65] (fun i wr => ∃ k : Nat, k ≤ m + 1 ∧ i = .int .i64 k ∧ IsB wr w.heap.size w.heap.size (js (ts.take (k + 1))) ∧ Below w.heap.size w wr) (fun i _ => m + 1 - (intOf i).toNat)
      case atStart => exact ⟨0, Nat.zero_le _, rfl, I3.out, B3.out⟩
      case round =>
        obtain ⟨k, hk, rfl, hi, hb⟩ := hrel
        have HI := Lib.hid hi
        have HB := Lib.hid hb
        have hk0 : (0 : Int) ≤ (k : Int) := by omega
        have HJ := Lib.hid (js_take (M := 1000) (k := k + 1) HMM.out (by rw [HN.out]; omega))
        clear hi hb
        by_cases hlt : k < m + 1
        · obtain ⟨b', off', y, e1, hx, hc, hl⟩ := HONE.out wr HB.out (k + 1) (by omega)
          injection e1 with e1
          injection e1 with e2 e3 _
          subst e2 e3
          rw [show off + (k + 1) = off + 1 + k by omega] at hc
          have HJN := Lib.hid (js_next hx (by omega))
          have hlt' : (k : Int) < (m : Int) + 1 := by omega
          have HYL := Lib.hid hl
          obtain ⟨L, hL⟩ : ∃ L, js (ts.take (k + 1)) = L := ⟨_, rfl⟩
          rw [hL] at HI HJ HJN
          have HS1 := Lib.hid (c_bString w.heap.size w.heap.size L [32] wr HI.out (by have := HJ.out; have := HNN.out; rw [List.length_singleton]; omega) HB.out.size)
          clear hx hl hL
          go_wp2_with fail
          refine HS1.out.mono ?_
          rintro e w4 ⟨rfl, hi, hb⟩
          have I4 := Lib.hid hi
          have B4 := Lib.hid (HB.out.trans hb)
          clear hi hb hc
          have HS2 := Lib.hid (c_bString w.heap.size w.heap.size (L ++ [32]) y w4 I4.out (by have := HJ.out; have := HNN.out; have := HYL.out; rw [List.length_append, List.length_singleton]; omega) B4.out.size)
          go_wp2_with fail
          refine HS2.out.mono ?_
          rintro e w5 ⟨rfl, hi, hb⟩
          have I5 := Lib.hid hi
          have B5 := Lib.hid (B4.out.trans hb)
          clear hi hb
          go_wp2_with fail
          go_roundw
          case rel => exact ⟨k + 1, by omega, by go_num, by rw [HJN.out]; exact I5.out, B5.out⟩
          case measure => simp [intOf]; omega
        · obtain rfl : k = m + 1 := by omega
          have hall : ts.take (m + 1 + 1) = ts := List.take_of_length_le (by rw [HN.out]; exact Nat.le_refl _)
          rw [hall] at HI
          have HTX := Lib.hid (c_bText w.heap.size w.heap.size (js ts) wr HI.out HB.out.size)
          have hlt' : ¬ ((m : Int) + 1) < (m : Int) + 1 := by omega
          clear hall
          go_wp2_with fail
          refine HTX.out.mono ?_
          rintro e w6 ⟨rfl, hb⟩
          have B6 := Lib.hid (HB.out.trans hb)
          clear hb
          go_wp2_with fail
          go_ret
          exact ⟨rfl, B6.out⟩
end Go.Proofs.YtdngbfpfhkkmpaaDoor
