/-
  Which states of trainings can be stored: the model and the program. Conditions: the cells can be read.
-/
import Derived.Test.YtpobdigmjfapbaaDoorAls
import Derived.Test.YtpobdigmjfapbaaDoorTrs
import Derived.Test.YtpobdigmjfapbaaDoorTPar
namespace Go.Proofs.YtpobdigmjfapbaaDoor
open Go.RowKit Go.Deep Go.WideShapes Go.ChangeShapes Go.Maps
set_option linter.unusedVariables false
attribute [local go_sem] World.drewN_zero

def stepT (t : Int) : Bool := decide (0 ≤ t) && decide (t ≤ 1000)
def seedT (s : Int) : Bool := decide (0 ≤ s) && decide (s ≤ 2147483647)
def lenT (N : Int) (x : FlA) : Bool := ((x.z.length : Int) == N)
def FitRelT (N : Int) (ls : List FlA) (w : World) (i : Value) (wr : World) : Prop := ∃ k : Nat, k ≤ ls.length ∧ i = .int .i64 k ∧ (ls.take k).all (lenT N) = true ∧ wr = w
theorem allT_next {g : FlA → Bool} {ls : List FlA} {k : Nat} {x : FlA} (h : (ls.take k).all g = true) (hx : ls[k]? = some x) (hg : g x = true) : (ls.take (k + 1)).all g = true := by
  rw [List.take_add_one, hx, List.all_append, h]
  simp [hg]
theorem allT_no {g : FlA → Bool} {ls : List FlA} {k : Nat} {x : FlA} (hx : ls[k]? = some x) (hg : g x = false) : ls.all g = false := by
  rw [List.all_eq_false]
  exact ⟨x, List.mem_of_getElem? hx, by rw [hg]; exact Bool.false_ne_true⟩
theorem c_isStepT (n : Int) (w : World) : Calls Tryd.prog 104 #[.int .i64 n] w fun e w' => e = .returned (.bool (stepT n)) ∧ w = w' := by
  unfold stepT
  by_cases h1 : 0 ≤ n
  · by_cases h2 : n ≤ 1000
    · go_enter Tryd.func104, Tryd.ntmps104
      go_wp2_with fail
      go_ret
      exact ⟨by simp [h1, h2], rfl⟩
    · go_enter Tryd.func104, Tryd.ntmps104
      go_wp2_with fail
      go_ret
      exact ⟨by simp [h2], rfl⟩
  · have H1 := Lib.hid (show false = (decide (0 ≤ n) && decide (n ≤ 1000)) by rw [decide_eq_false h1]; rfl)
    go_enter Tryd.func104, Tryd.ntmps104
    go_wp2_with fail
    go_ret
    exact ⟨ret_b H1.out, rfl⟩
theorem c_isSeedT (s : Int) (w : World) : Calls Tryd.prog 105 #[.int .i64 s] w fun e w' => e = .returned (.bool (seedT s)) ∧ w = w' := by
  unfold seedT
  by_cases h1 : 0 ≤ s
  · by_cases h2 : s ≤ 2147483647
    · go_enter Tryd.func105, Tryd.ntmps105
      go_wp2_with fail
      go_ret
      exact ⟨by simp [h1, h2], rfl⟩
    · go_enter Tryd.func105, Tryd.ntmps105
      go_wp2_with fail
      go_ret
      exact ⟨by simp [h2], rfl⟩
  · have H1 := Lib.hid (show false = (decide (0 ≤ s) && decide (s ≤ 2147483647)) by rw [decide_eq_false h1]; rfl)
    go_enter Tryd.func105, Tryd.ntmps105
    go_wp2_with fail
    go_ret
    exact ⟨ret_b H1.out, rfl⟩
theorem c_l07SeedT (s : Int) (w : World) : Calls Tryd.prog 95 #[.int .i64 s] w fun e w' => e = .returned (.bool (seedT s)) ∧ w = w' := by
  have H := Lib.hid (show (decide (0 ≤ s) && decide (s ≤ 2147483647)) = seedT s from rfl)
  go_enter Tryd.func95, Tryd.ntmps95
  go_wp2_with (go_at_call 94; refine (c_l00In _ _ _ _ H.out _).mono ?_; rintro e w' ⟨rfl, rfl⟩)
  go_ret
  exact ⟨rfl, rfl⟩
def stbB (q : TrsA) : Bool := vMod q.ps && (decide (q.ss.length ≤ 4) && (stepT q.st && (seedT q.sd && q.ss.all (lenT ((laySum q.ps : Nat) : Int)))))
theorem stbB_parts {q : TrsA} (h : stbB q = true) : vMod q.ps = true ∧ q.ss.length ≤ 4 ∧ ∀ x ∈ q.ss, x.z.length = laySum q.ps := by
  simp only [stbB, Bool.and_eq_true, decide_eq_true_eq, List.all_eq_true, lenT, beq_iff_eq] at h
  obtain ⟨h1, h2, _, _, h3⟩ := h
  exact ⟨h1, h2, fun x hx => by have := h3 x hx; omega⟩
set_option maxRecDepth 20000 in
set_option maxHeartbeats 4000000 in
theorem c_l08Is (gt : Nat) (q : TrsA) (w : World) (h : TrsAt w q) (K : Blk w gt 51 q.cells) :
    Calls Tryd.prog 55 #[.pointer (some ⟨gt, 0, none⟩)] w fun e w' => e = .returned (.bool (stbB q)) ∧ Below w.heap.size w w' := by
  obtain ⟨g, c, ls, g', c', ss, st, sd, sc⟩ := q
  simp only [TrsAt] at h
  obtain ⟨a1, a2, _⟩ := h
  unfold TrsA.cells at K
  simp only at K
  obtain ⟨v, hv⟩ : ∃ v, stbB ⟨g, c, ls, g', c', ss, st, sd, sc⟩ = v := ⟨_, rfl⟩
  have HV := (show (vMod (ls.map LayA.p) && (decide (ss.length ≤ 4) && (stepT st && (seedT sd && ss.all (lenT ((laySum (ls.map LayA.p) : Nat) : Int)))))) = v from hv)
  rw [hv]
  clear hv
  obtain ⟨n, hn⟩ : ∃ n, ls.length = n := ⟨_, rfl⟩
  obtain ⟨m, hm⟩ : ∃ m, ss.length = m := ⟨_, rfl⟩
  have HN := Lib.hid hn
  have HM0 := Lib.hid hm
  rw [hn] at K a1
  rw [hm] at K a2 HV
  have hmax : m ≤ 9223372036854775807 := by have h1 := a2.2.1; have h2 := a2.2.2.1; unfold maxLen at h2; omega
  obtain ⟨u1, h1⟩ : ∃ u, vMod (ls.map LayA.p) = u := ⟨_, rfl⟩
  obtain ⟨u3, h3⟩ : ∃ u, stepT st = u := ⟨_, rfl⟩
  obtain ⟨u4, h4⟩ : ∃ u, seedT sd = u := ⟨_, rfl⟩
  have HM := Lib.hid (fun W (hb : Below w.heap.size w W) hq => c_l03Is gt 0 g c n ls u1 h1 W hq (a1.kept hb))
  have HI := Lib.hid (fun W => c_l00In st 0 1000 u3 h3 W)
  have HS := fun W => c_l07SeedT sd W
  have HVM := Lib.hid h1
  simp only [h4] at HS
  rw [h1, h3, h4] at HV
  have HS' := Lib.hid HS
  have A1 := Lib.hid a1
  have A2 := Lib.hid a2
  have KK := Lib.hid K
  clear h1 h3 h4 HS hn hm a1 a2 K
  cases u1 with
  | false =>
    have HE := Lib.hid (show false = v from HV)
    clear HV
    obtain ⟨p0, p1, p2, p3, p4, p5⟩ := tbt5 KK.out
    go_enter Tryd.func55, Tryd.ntmps55
    go_wp2_with fail
    refine (HM.out _ (Below.refl _ _) p0).mono ?_
    rintro e w2 ⟨rfl, dn⟩
    have B2 := Lib.hid dn.below
    clear dn p0 p1 p2 p3 p4 p5
    obtain ⟨p0, p1, p2, p3, p4, p5⟩ := tbt5 (KK.out.below B2.out)
    go_wp2_with fail
    go_ret
    exact ⟨ret_b HE.out, B2.out⟩
  | true =>
  by_cases h4 : m ≤ 4
  case neg =>
    have HE := Lib.hid (show false = v by rw [← HV, decide_eq_false h4]; simp)
    have hd : decide ((m : Int) ≤ 4) = false := decide_eq_false (by omega)
    have hd2 : decide ((4 : Int) < (m : Int)) = true := decide_eq_true (by omega)
    clear HV h4
    obtain ⟨p0, p1, p2, p3, p4, p5⟩ := tbt5 KK.out
    go_enter Tryd.func55, Tryd.ntmps55
    go_wp2_with fail
    refine (HM.out _ (Below.refl _ _) p0).mono ?_
    rintro e w2 ⟨rfl, dn⟩
    have B2 := Lib.hid dn.below
    clear dn p0 p1 p2 p3 p4 p5
    obtain ⟨p0, p1, p2, p3, p4, p5⟩ := tbt5 (KK.out.below B2.out)
    go_wp2_with fail
    go_ret
    exact ⟨ret_b HE.out, B2.out⟩
  case pos =>
  have h4' : (m : Int) ≤ 4 := by omega
  rw [decide_eq_true h4] at HV
  clear h4
  cases u3 with
  | false =>
    have HE := Lib.hid (show false = v from HV)
    clear HV
    obtain ⟨p0, p1, p2, p3, p4, p5⟩ := tbt5 KK.out
    go_enter Tryd.func55, Tryd.ntmps55
    go_wp2_with fail
    refine (HM.out _ (Below.refl _ _) p0).mono ?_
    rintro e w2 ⟨rfl, dn⟩
    have B2 := Lib.hid dn.below
    clear dn p0 p1 p2 p3 p4 p5
    obtain ⟨p0, p1, p2, p3, p4, p5⟩ := tbt5 (KK.out.below B2.out)
    go_wp2_with fail
    refine (HI.out _).mono ?_
    rintro e w3 ⟨rfl, rfl⟩
    go_wp2_with fail
    go_ret
    exact ⟨ret_b HE.out, B2.out⟩
  | true =>
  cases u4 with
  | false =>
    have HE := Lib.hid (show false = v from HV)
    clear HV
    obtain ⟨p0, p1, p2, p3, p4, p5⟩ := tbt5 KK.out
    go_enter Tryd.func55, Tryd.ntmps55
    go_wp2_with fail
    refine (HM.out _ (Below.refl _ _) p0).mono ?_
    rintro e w2 ⟨rfl, dn⟩
    have B2 := Lib.hid dn.below
    clear dn p0 p1 p2 p3 p4 p5
    obtain ⟨p0, p1, p2, p3, p4, p5⟩ := tbt5 (KK.out.below B2.out)
    go_wp2_with fail
    refine (HI.out _).mono ?_
    rintro e w3 ⟨rfl, rfl⟩
    go_wp2_with fail
    refine (HS'.out _).mono ?_
    rintro e w3 ⟨rfl, rfl⟩
    go_wp2_with fail
    go_ret
    exact ⟨ret_b HE.out, B2.out⟩
  | true =>
    obtain ⟨v1, v2, v3⟩ := vMod_parts HVM.out
    have hn6 : n ≤ 6 := by rw [← HN.out]; simpa using v2
    have HPL := Lib.hid (parOf_length (ls.map LayA.p))
    have HP := Lib.hid (fun W (hb : Below w.heap.size w W) hgp hq => c_l03Params gt 0 g c n ls W hgp hq (A1.out.kept hb) v3 hn6)
    obtain ⟨N, hN⟩ : ∃ N, laySum (ls.map LayA.p) = N := ⟨_, rfl⟩
    rw [hN] at HPL HV v3
    clear v1 v2 hN
    obtain ⟨Z, hZ⟩ : ∃ Z, parOf (ls.map LayA.p) = Z := ⟨_, rfl⟩
    rw [hZ] at HP HPL
    clear hZ hn6
    obtain ⟨zl, hzl⟩ : ∃ l, Z.length = l := ⟨_, rfl⟩
    have HZL := Lib.hid hzl
    have HZN := Lib.hid (show zl = N by rw [← hzl]; exact HPL.out)
    have hz4 : zl ≤ 432 := by have := HZN.out; omega
    have HVV := Lib.hid (show ss.all (lenT ((zl : Nat) : Int)) = v by rw [HZN.out, ← HV]; simp)
    clear hzl HPL v3 HV
    obtain ⟨p0, p1, p2, p3, p4, p5⟩ := tbt5 KK.out
    go_enter Tryd.func55, Tryd.ntmps55
    go_wp2_with fail
    refine (HM.out _ (Below.refl _ _) p0).mono ?_
    rintro e w2 ⟨rfl, dn⟩
    have B2 := Lib.hid dn.below
    clear dn p0 p1 p2 p3 p4 p5
    obtain ⟨p0, p1, p2, p3, p4, p5⟩ := tbt5 (KK.out.below B2.out)
    go_wp2_with fail
    refine (HI.out _).mono ?_
    rintro e w3 ⟨rfl, rfl⟩
    go_wp2_with fail
    refine (HS'.out _).mono ?_
    rintro e w3 ⟨rfl, rfl⟩
    go_wp2_with fail
    refine (HP.out _ B2.out p5 p0).mono ?_
    rintro e w4 ⟨za, zc, rfl, ho, hb⟩
    have B4 := Lib.hid (Below.next B2.out hb)
    clear hb ho p0 p1 p2 p3 p4 p5
    rw [HZL.out]
    obtain ⟨p0, p1, p2, p3, p4, p5⟩ := tbt5 (KK.out.below B4.out)
    go_wp2_with fail
    obtain ⟨M, hM⟩ : ∃ M : Int, ((zl : Nat) : Int) = M := ⟨_, rfl⟩
    rw [hM] at HVV ⊢
    clear hM hz4
    go_loopw [4] (fun i wr => FitRelT M ss w4 i wr) (fun i _ => m - (intOf i).toNat)
    case atStart => exact ⟨0, Nat.zero_le _, rfl, by simp, rfl⟩
    case round =>
      obtain ⟨j, hj, rfl, hz, rfl⟩ := hrel
      have HZ := Lib.hid hz
      have hj0 : (0 : Int) ≤ (j : Int) := by omega
      rw [HM0.out] at hj
      clear hz
      by_cases hlt : j < m
      · have hlt' : (j : Int) < (m : Int) := by omega
        obtain ⟨b, off, z, a, c9, rfl, hbk, hx, qq, f⟩ := (A2.out.kept B4.out).one hlt
        have HX := Lib.hid hx
        have hzl : z.length ≤ 9223372036854775807 := by have h1 := f.1; have h2 := f.2.1; unfold maxLen at h2; omega
        clear hx f
        cases hg : lenT M ⟨z, a, c9⟩ with
        | true =>
          have HNN := Lib.hid (allT_next HZ.out HX.out hg)
          have he : (z.length : Int) = M := eq_of_beq (show ((z.length : Int) == M) = true from hg)
          clear hg
          subst he
          go_wp2_with fail
          go_roundw
          case rel => exact ⟨j + 1, by rw [HM0.out]; omega, by go_num, HNN.out, rfl⟩
          case measure => simp [intOf]; omega
        | false =>
          have HF := Lib.hid (show false = v by rw [← HVV.out, allT_no HX.out hg])
          have dn : ((z.length : Int) != M) = true := by rw [bne, show ((z.length : Int) == M) = false from hg]; rfl
          clear hg
          go_wp2_with fail
          go_ret
          exact ⟨ret_b HF.out, B4.out⟩
      · obtain rfl : j = m := by omega
        have hall : ss.all (lenT M) = true := by have h1 := HZ.out; rwa [List.take_of_length_le (by rw [HM0.out]; exact Nat.le_refl _)] at h1
        have HT := Lib.hid (show true = v by rw [← HVV.out, hall])
        clear hall
        go_wp2_with fail
        go_ret
        exact ⟨ret_b HT.out, B4.out⟩
theorem c_hasCountT (N : Int) (G : Nat) (z : List Nat) (a : Option Addr) (c : Nat) (w : World) (h0 : w.cell? ⟨G, 0, none⟩ = some (.int .i64 N)) :
    Calls Tryd.prog 102 #[.slice a z.length c, .pointer (some ⟨G, 0, none⟩)] w fun e w' => e = .returned (.bool (lenT N ⟨z, a, c⟩)) ∧ w = w' := by
  go_enter Tryd.func102, Tryd.ntmps102
  go_wp2_with fail
  go_ret
  exact ⟨rfl, rfl⟩
set_option maxRecDepth 20000 in
set_option maxHeartbeats 4000000 in
theorem t_iIsStorable (q : TrsA) (w : World) (h : TrsAt w q) : Calls Tryd.prog 61 #[.agg q.cells] w (RetB (stbB q) w) := by
  obtain ⟨g, c, ls, g', c', ss, st, sd, sc⟩ := q
  simp only [TrsAt] at h
  obtain ⟨a1, a2, _⟩ := h
  unfold TrsA.cells
  simp only
  have HP := fun W (hb : Below w.heap.size w W) => t_iCountParams (ls.map LayA.p) ls.length g c ls W rfl (a1.kept hb)
  have HA := fun (N : Int) (G : Nat) (W : World) (hb : Below w.heap.size w W) (hg : G < W.heap.size) (h0 : W.cell? ⟨G, 0, none⟩ = some (.int .i64 N)) => c_isAllS 102 #[.pointer (some ⟨G, 0, none⟩)] (lenT N) g' ss.length c' ss W (a2.kept hb) (enters_of Tryd.func102 (by kernel_rfl) (by kernel_rfl))
    (fun z a c wr hbr => c_hasCountT N G z a c wr ((hbr.cell (p := ⟨G, 0, none⟩) hg).trans h0))
  have HT := fun W => c_isStepT st W
  have HS := fun W => c_isSeedT sd W
  obtain ⟨v, hv⟩ : ∃ v, stbB ⟨g, c, ls, g', c', ss, st, sd, sc⟩ = v := ⟨_, rfl⟩
  have HV := (show (vMod (ls.map LayA.p) && (decide (ss.length ≤ 4) && (stepT st && (seedT sd && ss.all (lenT ((laySum (ls.map LayA.p) : Nat) : Int)))))) = v from hv)
  rw [hv]
  clear hv
  obtain ⟨u2, h2⟩ : ∃ u, vMod (ls.map LayA.p) = u := ⟨_, rfl⟩
  obtain ⟨u3, h3⟩ : ∃ u, stepT st = u := ⟨_, rfl⟩
  obtain ⟨u4, h4⟩ : ∃ u, seedT sd = u := ⟨_, rfl⟩
  have hcp : vCountParams (ls.map LayA.p) = if u2 = true then (((laySum (ls.map LayA.p) : Nat) : Int), true) else (0, false) := by
    unfold vCountParams
    rw [h2, parOf_length]
  simp only [hcp] at HP
  simp only [h3] at HT
  simp only [h4] at HS
  rw [h2, h3, h4] at HV
  clear h2 h3 h4 hcp a1
  obtain ⟨n, hn⟩ : ∃ n, ls.length = n := ⟨_, rfl⟩
  obtain ⟨m, hm⟩ : ∃ m, ss.length = m := ⟨_, rfl⟩
  have hmax : m ≤ 9223372036854775807 := by have h1 := a2.2.1; have h2 := a2.2.2.1; unfold maxLen at h2; omega
  rw [hn] at HP ⊢
  rw [hm] at HA HV ⊢
  obtain ⟨N, hN⟩ : ∃ N : Int, ((laySum (ls.map LayA.p) : Nat) : Int) = N := ⟨_, rfl⟩
  rw [hN] at HP HV
  have K := Lib.hid (Blk.new w 51 #[.slice g n c, .slice g' m c', .int .i64 st, .int .i64 sd, .float .f32 sc])
  have B := Lib.hid ((Below.refl w.heap.size w).alloc (Nat.le_refl _) (.cells #[.slice g n c, .slice g' m c', .int .i64 st, .int .i64 sd, .float .f32 sc] 51))
  have HT' := Lib.hid HT
  have HS' := Lib.hid HS
  clear HT HS hn hm hN a2
  cases u2 with
  | false =>
    simp only [Bool.false_eq_true, if_false] at HP
    have HP2 := Lib.hid HP
    have HE := Lib.hid (show false = v from HV)
    clear HV
    have HA2 := Lib.hid (HA (0))
    clear HP HA
    go_enter Tryd.func61, Tryd.ntmps61
    go_wp2_with fail
    generalize w.alloc (.cells #[.slice g n c, .slice g' m c', .int .i64 st, .int .i64 sd, .float .f32 sc] 51) = w1 at K B ⊢
    obtain ⟨p0, p1, p2, p3, p4, p5⟩ := tbt5 K.out
    go_wp2_with fail
    refine (HP2.out _ B.out).mono ?_
    rintro e w2 ⟨rfl, hb⟩
    have K2 := Lib.hid (K.out.below hb)
    have B2 := Lib.hid (Below.next B.out hb)
    clear hb p0 p1 p2 p3 p4 p5
    have bal := (Below.refl w2.heap.size w2).alloc (Nat.le_refl _) (.cells #[.int .i64 (0)] 2)
    have K3 := Lib.hid (K2.out.below bal)
    have B3 := Lib.hid (Below.next B2.out bal)
    have C3 := Lib.hid (Blk.new w2 2 #[.int .i64 (0)])
    clear bal
    obtain ⟨p0, p1, p2, p3, p4, p5⟩ := tbt5 K3.out
    go_wp2_with fail
    all_goals
      go_ret
      exact ⟨ret_b HE.out, B3.out⟩
  | true =>
  simp only [if_true] at HP
  have HP2 := Lib.hid HP
  by_cases h4 : m ≤ 4
  case neg =>
    have HE := Lib.hid (show false = v by rw [← HV, decide_eq_false h4]; simp)
    have hd : decide ((m : Int) ≤ 4) = false := decide_eq_false (by omega)
    have hd2 : decide ((4 : Int) < (m : Int)) = true := decide_eq_true (by omega)
    clear HV h4
    have HA2 := Lib.hid (HA (N))
    clear HP HA
    go_enter Tryd.func61, Tryd.ntmps61
    go_wp2_with fail
    generalize w.alloc (.cells #[.slice g n c, .slice g' m c', .int .i64 st, .int .i64 sd, .float .f32 sc] 51) = w1 at K B ⊢
    obtain ⟨p0, p1, p2, p3, p4, p5⟩ := tbt5 K.out
    go_wp2_with fail
    refine (HP2.out _ B.out).mono ?_
    rintro e w2 ⟨rfl, hb⟩
    have K2 := Lib.hid (K.out.below hb)
    have B2 := Lib.hid (Below.next B.out hb)
    clear hb p0 p1 p2 p3 p4 p5
    have bal := (Below.refl w2.heap.size w2).alloc (Nat.le_refl _) (.cells #[.int .i64 (N)] 2)
    have K3 := Lib.hid (K2.out.below bal)
    have B3 := Lib.hid (Below.next B2.out bal)
    have C3 := Lib.hid (Blk.new w2 2 #[.int .i64 (N)])
    clear bal
    obtain ⟨p0, p1, p2, p3, p4, p5⟩ := tbt5 K3.out
    go_wp2_with fail
    go_ret
    exact ⟨ret_b HE.out, B3.out⟩
  case pos =>
  have h4' : (m : Int) ≤ 4 := by omega
  rw [decide_eq_true h4] at HV
  clear h4
  obtain ⟨f, hf⟩ : ∃ f, ss.all (lenT N) = f := ⟨_, rfl⟩
  simp only [hf] at HV
  have HA' := HA N
  simp only [hf] at HA'
  clear hf HA
  cases f with
  | false =>
    have HE := Lib.hid (show false = v by rw [← HV]; simp)
    have HA := fun (_ : Int) => HA'
    clear HV HA'
    have HA2 := Lib.hid (HA (N))
    clear HP HA
    go_enter Tryd.func61, Tryd.ntmps61
    go_wp2_with fail
    generalize w.alloc (.cells #[.slice g n c, .slice g' m c', .int .i64 st, .int .i64 sd, .float .f32 sc] 51) = w1 at K B ⊢
    obtain ⟨p0, p1, p2, p3, p4, p5⟩ := tbt5 K.out
    go_wp2_with fail
    refine (HP2.out _ B.out).mono ?_
    rintro e w2 ⟨rfl, hb⟩
    have K2 := Lib.hid (K.out.below hb)
    have B2 := Lib.hid (Below.next B.out hb)
    clear hb p0 p1 p2 p3 p4 p5
    have bal := (Below.refl w2.heap.size w2).alloc (Nat.le_refl _) (.cells #[.int .i64 (N)] 2)
    have K3 := Lib.hid (K2.out.below bal)
    have B3 := Lib.hid (Below.next B2.out bal)
    have C3 := Lib.hid (Blk.new w2 2 #[.int .i64 (N)])
    clear bal
    obtain ⟨p0, p1, p2, p3, p4, p5⟩ := tbt5 K3.out
    go_wp2_with fail
    refine (HA2.out w2.heap.size _ B3.out C3.out.lt (C3.out.cell 0)).mono ?_
    rintro e w4 ⟨rfl, hb⟩
    have K4 := Lib.hid (K3.out.below hb)
    have B4 := Lib.hid (Below.next B3.out hb)
    clear hb p0 p1 p2 p3 p4 p5
    obtain ⟨p0, p1, p2, p3, p4, p5⟩ := tbt5 K4.out
    go_wp2_with fail
    go_ret
    exact ⟨ret_b HE.out, B4.out⟩
  | true =>
  have HA := fun (_ : Int) => HA'
  clear HA'
  cases u3 with
  | false =>
    have HE := Lib.hid (show false = v from HV)
    clear HV
    have HA2 := Lib.hid (HA (N))
    clear HP HA
    go_enter Tryd.func61, Tryd.ntmps61
    go_wp2_with fail
    generalize w.alloc (.cells #[.slice g n c, .slice g' m c', .int .i64 st, .int .i64 sd, .float .f32 sc] 51) = w1 at K B ⊢
    obtain ⟨p0, p1, p2, p3, p4, p5⟩ := tbt5 K.out
    go_wp2_with fail
    refine (HP2.out _ B.out).mono ?_
    rintro e w2 ⟨rfl, hb⟩
    have K2 := Lib.hid (K.out.below hb)
    have B2 := Lib.hid (Below.next B.out hb)
    clear hb p0 p1 p2 p3 p4 p5
    have bal := (Below.refl w2.heap.size w2).alloc (Nat.le_refl _) (.cells #[.int .i64 (N)] 2)
    have K3 := Lib.hid (K2.out.below bal)
    have B3 := Lib.hid (Below.next B2.out bal)
    have C3 := Lib.hid (Blk.new w2 2 #[.int .i64 (N)])
    clear bal
    obtain ⟨p0, p1, p2, p3, p4, p5⟩ := tbt5 K3.out
    go_wp2_with fail
    refine (HA2.out w2.heap.size _ B3.out C3.out.lt (C3.out.cell 0)).mono ?_
    rintro e w4 ⟨rfl, hb⟩
    have K4 := Lib.hid (K3.out.below hb)
    have B4 := Lib.hid (Below.next B3.out hb)
    clear hb p0 p1 p2 p3 p4 p5
    obtain ⟨p0, p1, p2, p3, p4, p5⟩ := tbt5 K4.out
    go_wp2_with fail
    refine (HT'.out _).mono ?_
    rintro e w5 ⟨rfl, rfl⟩
    go_wp2_with fail
    go_ret
    exact ⟨ret_b HE.out, B4.out⟩
  | true =>
    have HE := Lib.hid (show u4 = v by rw [← HV]; simp)
    clear HV
    have HA2 := Lib.hid (HA (N))
    clear HP HA
    go_enter Tryd.func61, Tryd.ntmps61
    go_wp2_with fail
    generalize w.alloc (.cells #[.slice g n c, .slice g' m c', .int .i64 st, .int .i64 sd, .float .f32 sc] 51) = w1 at K B ⊢
    obtain ⟨p0, p1, p2, p3, p4, p5⟩ := tbt5 K.out
    go_wp2_with fail
    refine (HP2.out _ B.out).mono ?_
    rintro e w2 ⟨rfl, hb⟩
    have K2 := Lib.hid (K.out.below hb)
    have B2 := Lib.hid (Below.next B.out hb)
    clear hb p0 p1 p2 p3 p4 p5
    have bal := (Below.refl w2.heap.size w2).alloc (Nat.le_refl _) (.cells #[.int .i64 (N)] 2)
    have K3 := Lib.hid (K2.out.below bal)
    have B3 := Lib.hid (Below.next B2.out bal)
    have C3 := Lib.hid (Blk.new w2 2 #[.int .i64 (N)])
    clear bal
    obtain ⟨p0, p1, p2, p3, p4, p5⟩ := tbt5 K3.out
    go_wp2_with fail
    refine (HA2.out w2.heap.size _ B3.out C3.out.lt (C3.out.cell 0)).mono ?_
    rintro e w4 ⟨rfl, hb⟩
    have K4 := Lib.hid (K3.out.below hb)
    have B4 := Lib.hid (Below.next B3.out hb)
    clear hb p0 p1 p2 p3 p4 p5
    obtain ⟨p0, p1, p2, p3, p4, p5⟩ := tbt5 K4.out
    go_wp2_with fail
    refine (HT'.out _).mono ?_
    rintro e w5 ⟨rfl, rfl⟩
    go_wp2_with fail
    refine (HS'.out _).mono ?_
    rintro e w6 ⟨rfl, rfl⟩
    go_wp2_with fail
    go_ret
    exact ⟨ret_b HE.out, B4.out⟩
end Go.Proofs.YtpobdigmjfapbaaDoor
