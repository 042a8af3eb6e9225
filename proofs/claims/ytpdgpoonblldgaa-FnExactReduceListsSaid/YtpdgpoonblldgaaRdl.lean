/-
  ReduceLists: what the model answers, over its sums. Conditions: the numbers can be read.
-/
import Derived.Test.YtpdgpoonblldgaaRdk
namespace Go.Proofs.Ytpdgpoonblldgaa
open Go.RowKit Go.Deep Go.WideShapes Go.ChangeShapes
set_option linter.unusedVariables false
set_option linter.unusedSimpArgs false

/-- the first k lists are as long as the first one -/
def LensRel (ls : List FlA) (L n : Nat) (w : World) (i : Value) (wr : World) : Prop := ∃ k m : Nat, k ≤ n ∧ i = .int .i64 k ∧ ((ls.take k).all fun x => decide (x.z.length = L)) = true ∧ wr = w.drewN m
theorem lens_next {ls : List FlA} {L k : Nat} {x : FlA} (h : ((ls.take k).all fun x => decide (x.z.length = L)) = true) (hx : ls[k]? = some x) (hl : x.z.length = L) : ((ls.take (k + 1)).all fun x => decide (x.z.length = L)) = true := by
  rw [List.take_add_one, hx, List.all_append, h]
  simp [hl]
theorem lens_no {ls : List FlA} {L k : Nat} {x : FlA} (hx : ls[k]? = some x) (hl : ¬ x.z.length = L) : (ls.all fun x => decide (x.z.length = L)) = false := by
  rw [List.all_eq_false]
  exact ⟨x, List.mem_of_getElem? hx, by simpa using hl⟩
set_option maxRecDepth 20000 in
set_option maxHeartbeats 2000000 in
theorem c_sReduceNo1 (kind : Int) (hk : (decide (0 ≤ kind) && decide (kind ≤ 2)) = false) (g : Option Addr) (n cap : Nat) (w : World) :
    Calls Try.prog 23 #[.int .i64 kind, .slice g n cap] w (RetL false [] w) := by
  have HK := Lib.hid hk
  clear hk
  go_enter Try.func23, Try.ntmps23
  go_wp2_with (go_at_call 72; refine (c_l10Kind kind _).mono ?_; rw [HK.out]; rintro e w1 ⟨rfl, rfl⟩)
  go_ret2
  exact retL_none _ _ (Below.refl _ _)
set_option maxRecDepth 20000 in
set_option maxHeartbeats 2000000 in
theorem c_sReduceNo2 (kind : Int) (hk : (decide (0 ≤ kind) && decide (kind ≤ 2)) = true) (g : Option Addr) (n cap : Nat) (hn : (decide (1 ≤ n) && decide (n ≤ 8)) = false) (hn2 : n ≤ 9223372036854775807) (w : World) :
    Calls Try.prog 23 #[.int .i64 kind, .slice g n cap] w (RetL false [] w) := by
  have HK := Lib.hid hk
  have HN := Lib.hid (show (decide ((1 : Int) ≤ (n : Int)) && decide ((n : Int) ≤ 8)) = false by
    rw [← hn]
    congr 1 <;> exact decide_eq_decide.2 (by omega))
  clear hk hn
  go_enter Try.func23, Try.ntmps23
  go_wp2_with (first | (go_at_call 72; refine (c_l10Kind kind _).mono ?_; rw [HK.out]; rintro e w1 ⟨rfl, rfl⟩) | (go_at_call 73; refine (c_l00In n 1 8 false HN.out _).mono ?_; rintro e w2 ⟨rfl, rfl⟩))
  go_ret2
  exact retL_none _ _ (Below.refl _ _)
set_option maxRecDepth 20000 in
set_option maxHeartbeats 2000000 in
theorem c_sReduceBy (kind : Int) (hk : (decide (0 ≤ kind) && decide (kind ≤ 2)) = true) (g : Option Addr) (n cap : Nat) (ls : List FlA) (w : World) (h : SSAt w g n cap ls) (hn : 1 ≤ n ∧ n ≤ 8) (zs : List Nat)
    (hT : okL (ls.map FlA.z) = true → ∀ wr : World, Below w.heap.size w wr → Calls Try.prog 74 #[.int .i64 kind, .slice g n cap] wr (RetLs zs wr)) :
    Calls Try.prog 23 #[.int .i64 kind, .slice g n cap] w (RetL (okL (ls.map FlA.z)) (if okL (ls.map FlA.z) = true then zs else []) w) := by
  obtain ⟨b, off, z0, a0, c0, rfl, hbk, hx, q0, hf⟩ := h.one (show 0 < n by omega)
  have hz0 : ((ls.map FlA.z).getD 0 []) = z0 := by
    cases ls with
    | nil => simp at hx
    | cons y t => simp at hx; simp [hx]
  have hm0 : z0.length ≤ 9223372036854775807 := by have h1 := hf.1; have h2 := hf.2.1; unfold maxLen at h2; omega
  have hokv : okL (ls.map FlA.z) = (decide (z0.length ≤ 512) && ls.all fun x => decide (x.z.length = z0.length)) := by
    unfold okL
    rw [List.length_map, h.1, hz0, decide_eq_true hn.1, decide_eq_true hn.2, List.all_map]
    rfl
  obtain ⟨L, hL⟩ : ∃ L, z0.length = L := ⟨_, rfl⟩
  rw [hL] at hokv q0 hm0
  rw [Nat.add_zero] at q0
  have HK := Lib.hid hk
  have HS := Lib.hid h
  have HT := Lib.hid hT
  have HN := Lib.hid (show (decide ((1 : Int) ≤ (n : Int)) && decide ((n : Int) ≤ 8)) = true by rw [Bool.and_eq_true, decide_eq_true_eq, decide_eq_true_eq]; omega)
  have i1 : (0 : Int) < (n : Int) := by omega
  have i2 : (n : Int) ≤ 8 := by omega
  have HQ := Lib.hid q0
  by_cases h5 : 512 < L
  case pos =>
    have hv : okL (ls.map FlA.z) = false := by rw [hokv, show decide (L ≤ 512) = false by simp; omega]; rfl
    rw [hv]
    have i4 : (L : Int) > 512 := by omega
    clear hk h hn hT hx hf hz0 hokv hL h5 hbk hv
    go_enter Try.func23, Try.ntmps23
    go_wp2_with (first | (go_at_call 72; refine (c_l10Kind kind _).mono ?_; rw [HK.out]; rintro e w1 ⟨rfl, rfl⟩) | (go_at_call 73; refine (c_l00In n 1 8 true HN.out _).mono ?_; rintro e w2 ⟨rfl, rfl⟩))
    go_ret2
    exact retL_none _ _ (Below.refl _ _)
  case neg =>
    have HV := Lib.hid (show okL (ls.map FlA.z) = ls.all fun x => decide (x.z.length = L) by rw [hokv, show decide (L ≤ 512) = true by simp; omega]; rfl)
    have i4 : ¬ (L : Int) > 512 := by omega
    have i5 : (L : Int) ≤ 512 := by omega
    obtain ⟨ov, hov⟩ : ∃ ov, okL (ls.map FlA.z) = ov := ⟨_, rfl⟩
    rw [hov] at HT HV ⊢
    obtain ⟨zo, hzo⟩ : ∃ zo, (if ov = true then zs else []) = zo := ⟨_, rfl⟩
    have HZO := Lib.hid hzo
    rw [hzo]
    clear hk h hn hT hx hf hz0 hokv hL h5 hbk hov hzo
    go_enter Try.func23, Try.ntmps23
    go_wp2_with (first | (go_at_call 72; refine (c_l10Kind kind _).mono ?_; rw [HK.out]; rintro e w1 ⟨rfl, rfl⟩) | (go_at_call 73; refine (c_l00In n 1 8 true HN.out _).mono ?_; rintro e w2 ⟨rfl, rfl⟩))
    go_loopw [6] (fun i wr => LensRel ls L n w i wr) (fun i _ => n - (intOf i).toNat)
    case atStart => exact ⟨0, 0, Nat.zero_le _, rfl, rfl, (World.drewN_zero w).symm⟩
    case round =>
      obtain ⟨k, m, hk, rfl, hall, rfl⟩ := hrel
      have HA := Lib.hid hall
      have hk0 : (0 : Int) ≤ (k : Int) := by omega
      clear hall
      by_cases hlt : k < n
      · have hlt' : (k : Int) < (n : Int) := by omega
        obtain ⟨b', off', z, a, c, e, hbk, hx, q1, hf⟩ := HS.out.one hlt
        cases e
        have hmz : z.length ≤ 9223372036854775807 := by have h1 := hf.1; have h2 := hf.2.1; unfold maxLen at h2; omega
        have HX := Lib.hid hx
        clear hf hx hbk
        by_cases hz : z.length = L
        · have HZ := Lib.hid hz
          rw [hz] at q1
          clear hz hmz
          go_wp2_with fail
          go_quiet (fail)
          go_wp2_with fail
          go_roundw
          case rel => exact ⟨k + 1, _, hlt, by go_num, lens_next HA.out HX.out HZ.out, by first | rfl | exact World.drewN_drewN _ _ _⟩
          case measure => simp [intOf]; omega
        · have hov : ov = false := by rw [HV.out]; exact lens_no HX.out hz
          have hne : ((z.length : Int) != (L : Int)) = true := by rw [bne_iff_ne]; omega
          subst hov
          obtain rfl : zo = [] := by rw [← HZO.out]; rfl
          clear hz
          go_wp2_with fail
          go_quiet (fail)
          go_wp2_with fail
          go_ret2
          exact retL_none _ _ (by first | exact below_drewN (Below.refl _ _) _ | exact below_drewN (below_drewN (Below.refl _ _) _) _)
      · obtain rfl : k = n := by omega
        have hov : ov = true := by rw [HV.out]; have := HA.out; rw [List.take_of_length_le (by rw [HS.out.1]; exact Nat.le_refl _)] at this; exact this
        subst hov
        obtain rfl : zo = zs := by rw [← HZO.out]; rfl
        have HC := Lib.hid (HT.out rfl _ (below_drewN (Below.refl _ _) m))
        go_wp2_with fail
        refine HC.out.mono ?_
        rintro e w4 ⟨a, c, ys, rfl, ho, he, bl⟩
        have HO := Lib.hid ho
        have HE := Lib.hid he
        have HB := Lib.hid bl
        clear ho he bl
        go_wp2_with fail
        go_ret2
        exact ⟨a, c, ys, rfl, HO.out, HE.out, Below.next (below_drewN (Below.refl _ _) m) HB.out⟩
end Go.Proofs.Ytpdgpoonblldgaa
