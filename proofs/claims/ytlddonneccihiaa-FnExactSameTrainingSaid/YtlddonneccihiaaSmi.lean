/-
  SameTraining: the program. Conditions: the cells can be read.
-/
import Derived.Test.YtlddonneccihiaaTrs
import Derived.Test.YtlddonneccihiaaTSame
namespace Go.Proofs.Ytlddonneccihiaa
open Go.RowKit Go.Deep Go.WideShapes Go.ChangeShapes
set_option linter.unusedVariables false
attribute [local go_sem] World.drewN_zero

instance : DecidableEq LayP := fun a b => decidable_of_iff (a.k = b.k ∧ a.i = b.i ∧ a.o = b.o ∧ a.ws = b.ws ∧ a.bs = b.bs) (by
  obtain ⟨a1, a2, a3, a4, a5⟩ := a
  obtain ⟨b1, b2, b3, b4, b5⟩ := b
  simp)
def sameSS (ls ls' : List FlA) : Bool := decide (ls.map (fun x => x.z.map (canon .f32)) = ls'.map (fun x => x.z.map (canon .f32)))
def sameLs (ls ls' : List LayA) : Bool := decide (ls.map (fun x => x.p.can) = ls'.map (fun x => x.p.can))
def sameLay (x y : LayA) : Bool := decide (x.p.can = y.p.can)
def vSame (q q' : TrsA) : Bool := sameLs q.ls q'.ls && (sameSS q.ss q'.ss && (decide (q.st = q'.st) && (decide (q.sd = q'.sd) && decide (canon .f32 q.sc = canon .f32 q'.sc))))
theorem map_take {α β : Type} {f : α → β} {ls ls' : List α} {k : Nat} {x y : α} (h : (ls.take k).map f = (ls'.take k).map f) (hx : ls[k]? = some x) (hy : ls'[k]? = some y) (he : f x = f y) : (ls.take (k + 1)).map f = (ls'.take (k + 1)).map f := by
  rw [List.take_add_one, List.take_add_one, hx, hy, List.map_append, List.map_append, h]
  simp [he]
theorem map_ne {α β : Type} {f : α → β} {ls ls' : List α} {k : Nat} {x y : α} (hx : ls[k]? = some x) (hy : ls'[k]? = some y) (he : f x ≠ f y) : ls.map f ≠ ls'.map f := by
  intro h
  have h1 : (ls.map f)[k]? = (ls'.map f)[k]? := by rw [h]
  simp only [List.getElem?_map, hx, hy, Option.map_some, Option.some.injEq] at h1
  exact he h1
theorem map_len {α β : Type} {f : α → β} {ls ls' : List α} (hl : ls.length ≠ ls'.length) : ls.map f ≠ ls'.map f := fun h => hl (by simpa using congrArg List.length h)
theorem c_EqFl (a b : Option Addr) (ca cb : Nat) (xs ys : List Nat) (w : World) (ha : IsFloats .f32 w a xs.length ca xs) (hb : IsFloats .f32 w b ys.length cb ys) :
    Calls Try.prog 56 #[.slice a xs.length ca, .slice b ys.length cb, .func (.func 35) #[] #[]] w fun e w' => e = .returned (.bool (sameB xs ys)) ∧ w = w' := by
  by_cases hl : xs.length = ys.length
  · have h := c_EqualFunc a b ca cb xs ys ys.length w (by rw [← hl]; rw [← hl] at hb; exact ha) hb
    rw [hl]
    exact h
  · have hx : xs.length ≤ 9223372036854775807 := by have h1 := ha.1; have h2 := ha.2.1; unfold maxLen at h2; omega
    have hy : ys.length ≤ 9223372036854775807 := by have h1 := hb.1; have h2 := hb.2.1; unfold maxLen at h2; omega
    have hs : sameB xs ys = false := decide_eq_false (map_len hl)
    have hne : ¬ (xs.length : Int) = (ys.length : Int) := by omega
    rw [hs]
    clear ha hb hs hl
    go_enter Try.func56, Try.ntmps56
    go_wp2_with fail
    go_ret
    exact ⟨rfl, rfl⟩
theorem c_sameLists (a b : Option Addr) (ca cb : Nat) (xs ys : List Nat) (w : World) (ha : IsFloats .f32 w a xs.length ca xs) (hb : IsFloats .f32 w b ys.length cb ys) :
    Calls Try.prog 34 #[.slice a xs.length ca, .slice b ys.length cb] w fun e w' => e = .returned (.bool (sameB xs ys)) ∧ w = w' := by
  have HA := Lib.hid ha
  have HB := Lib.hid hb
  clear ha hb
  go_enter Try.func34, Try.ntmps34
  go_wp2_with fail
  refine (c_EqFl a b ca cb xs ys _ HA.out HB.out).mono ?_
  rintro e w2 ⟨rfl, rfl⟩
  go_wp2_with fail
  go_ret
  exact ⟨rfl, rfl⟩
def EqSRel (ls ls' : List FlA) (n : Nat) (i : Value) : Prop := ∃ k : Nat, k ≤ n ∧ i = .int .i64 k ∧ (ls.take k).map (fun x => x.z.map (canon .f32)) = (ls'.take k).map (fun x => x.z.map (canon .f32))
set_option maxHeartbeats 1000000 in
theorem c_EqSS (g g' : Option Addr) (c c' n n' : Nat) (ls ls' : List FlA) (w : World) (h : SSAt w g n c ls) (h' : SSAt w g' n' c' ls') :
    Calls Try.prog 33 #[.slice g n c, .slice g' n' c', .func (.func 34) #[] #[]] w fun e w' => e = .returned (.bool (sameSS ls ls')) ∧ w = w' := by
  have hn : n ≤ 9223372036854775807 := by have h1 := h.2.1; have h2 := h.2.2.1; unfold maxLen at h2; omega
  have hn' : n' ≤ 9223372036854775807 := by have h1 := h'.2.1; have h2 := h'.2.2.1; unfold maxLen at h2; omega
  have hN := h.1
  have hN' := h'.1
  obtain ⟨s, hs⟩ : ∃ s, sameSS ls ls' = s := ⟨_, rfl⟩
  have HS := Lib.hid hs
  rw [hs]
  by_cases hl : n = n'
  case neg =>
    have HF := Lib.hid (show false = s by rw [← hs]; exact (decide_eq_false (map_len (by omega))).symm)
    have hne : ¬ (n : Int) = (n' : Int) := by omega
    clear h h' hs hl hN hN'
    go_enter Try.func33, Try.ntmps33
    go_wp2_with fail
    go_ret
    exact ⟨ret_b HF.out, rfl⟩
  case pos =>
  subst hl
  have H := Lib.hid h
  have H' := Lib.hid h'
  have HN := Lib.hid hN
  have HN' := Lib.hid hN'
  clear h h' hs hN hN'
  go_enter Try.func33, Try.ntmps33
  go_wp2
  go_loop [17] (fun i => EqSRel ls ls' n i) (fun i => n - (intOf i).toNat)
  case atStart => exact ⟨0, Nat.zero_le _, rfl, rfl⟩
  case round =>
    obtain ⟨k, hk, rfl, he⟩ := hrel
    have HE := Lib.hid he
    clear he
    by_cases hlt : k < n
    · obtain ⟨b, off, z, a, c0, rfl, hbk, hx, q, f⟩ := H.out.one hlt
      obtain ⟨b', off', z', a', c0', rfl, hbk', hx', q', f'⟩ := H'.out.one hlt
      have HX := Lib.hid hx
      have HX' := Lib.hid hx'
      have HF := Lib.hid f
      have HF' := Lib.hid f'
      have hlt' : (k : Int) < (n : Int) := by omega
      have hk0 : (0 : Int) ≤ (k : Int) := by omega
      clear hx hx' f f'
      go_wp2_with fail
      refine (c_sameLists a a' c0 c0' z z' _ HF.out HF'.out).mono ?_
      rintro e wz ⟨rfl, rfl⟩
      by_cases heq : z.map (canon .f32) = z'.map (canon .f32)
      · have HQ := Lib.hid heq
        rw [sameB_true heq]
        clear heq
        go_wp2_with fail
        go_round
        case rel => exact ⟨k + 1, by omega, by go_num, map_take HE.out HX.out HX'.out HQ.out⟩
        case measure => simp [intOf]; omega
      · have HF2 := Lib.hid (show false = s by rw [← HS.out]; exact (decide_eq_false (map_ne (f := fun x : FlA => x.z.map (canon .f32)) HX.out HX'.out heq)).symm)
        rw [show sameB z z' = false from decide_eq_false heq]
        clear heq
        go_wp2_with fail
        go_ret
        exact ⟨ret_b HF2.out, rfl⟩
    · obtain rfl : k = n := by omega
      have HT := Lib.hid (show true = s by
        rw [← HS.out]
        have h1 := HE.out
        have e1 := HN.out
        have e2 := HN'.out
        rw [List.take_of_length_le (by omega), List.take_of_length_le (by omega)] at h1
        exact (decide_eq_true h1).symm)
      go_wp2
      go_ret
      exact ⟨ret_b HT.out, rfl⟩
theorem lay_can {x y : LayA} : x.p.can = y.p.can ↔ x.p.k = y.p.k ∧ x.p.i = y.p.i ∧ x.p.o = y.p.o ∧ x.p.ws.map (canon .f32) = y.p.ws.map (canon .f32) ∧ x.p.bs.map (canon .f32) = y.p.bs.map (canon .f32) := by
  simp only [LayP.can, LayP.mk.injEq]
theorem c_sameFormS (kk i o kk' i' o' : Int) (a0 a1 a0' a1' : Option Addr) (n0 n1 n0' n1' c0 c1 c0' c1' : Nat) (w : World) :
    Calls Try.prog 67 #[.agg #[.int .i64 kk, .int .i64 i, .int .i64 o, .slice a0 n0 c0, .slice a1 n1 c1], .agg #[.int .i64 kk', .int .i64 i', .int .i64 o', .slice a0' n0' c0', .slice a1' n1' c1']] w
      fun e w' => e = .returned (.bool (decide (kk = kk') && (decide (i = i') && decide (o = o')))) ∧ Below w.heap.size w w' := by
  have BB := Lib.hid (two_boxes w 82 #[.int .i64 kk, .int .i64 i, .int .i64 o, .slice a0 n0 c0, .slice a1 n1 c1] #[.int .i64 kk', .int .i64 i', .int .i64 o', .slice a0' n0' c0', .slice a1' n1' c1']).2.2
  by_cases y1 : kk = kk'
  case neg =>
    have HE := Lib.hid (show false = (decide (kk = kk') && (decide (i = i') && decide (o = o'))) by rw [decide_eq_false y1]; rfl)
    have dn : (kk == kk') = false := beq_eq_false_iff_ne.2 y1
    clear y1
    go_enter Try.func67, Try.ntmps67
    go_wp2_with fail
    go_ret
    exact ⟨ret_b HE.out, BB.out⟩
  case pos =>
  by_cases y2 : i = i'
  case neg =>
    have HE := Lib.hid (show false = (decide (kk = kk') && (decide (i = i') && decide (o = o'))) by rw [decide_eq_false y2]; simp)
    have dn : (i == i') = false := beq_eq_false_iff_ne.2 y2
    subst y1
    clear y2
    go_enter Try.func67, Try.ntmps67
    go_wp2_with fail
    go_ret
    exact ⟨ret_b HE.out, BB.out⟩
  case pos =>
  by_cases y3 : o = o'
  case neg =>
    have HE := Lib.hid (show false = (decide (kk = kk') && (decide (i = i') && decide (o = o'))) by rw [decide_eq_false y3]; simp)
    have dn : (o == o') = false := beq_eq_false_iff_ne.2 y3
    subst y1 y2
    clear y3
    go_enter Try.func67, Try.ntmps67
    go_wp2_with fail
    go_ret
    exact ⟨ret_b HE.out, BB.out⟩
  case pos =>
    have HE := Lib.hid (show true = (decide (kk = kk') && (decide (i = i') && decide (o = o'))) by rw [decide_eq_true y1, decide_eq_true y2, decide_eq_true y3]; rfl)
    subst y1 y2 y3
    go_enter Try.func67, Try.ntmps67
    go_wp2_with fail
    go_ret
    exact ⟨ret_b HE.out, BB.out⟩
set_option maxHeartbeats 2000000 in
theorem c_sameLayers (k i o k' i' o' : Int) (a0 a1 b0 b1 : Option Addr) (c0 c1 d0 d1 : Nat) (ws bs ws' bs' : List Nat) (w : World) (h0 : IsFloats .f32 w a0 ws.length c0 ws) (h1 : IsFloats .f32 w a1 bs.length c1 bs) (h2 : IsFloats .f32 w b0 ws'.length d0 ws') (h3 : IsFloats .f32 w b1 bs'.length d1 bs') :
    Calls Try.prog 55 #[.agg #[.int .i64 k, .int .i64 i, .int .i64 o, .slice a0 ws.length c0, .slice a1 bs.length c1], .agg #[.int .i64 k', .int .i64 i', .int .i64 o', .slice b0 ws'.length d0, .slice b1 bs'.length d1]] w
      fun e w' => e = .returned (.bool (decide (k = k') && (decide (i = i') && (decide (o = o') && (sameB ws ws' && sameB bs bs'))))) ∧ Below w.heap.size w w' := by
  have H0 := Lib.hid h0
  have H1 := Lib.hid h1
  have H2 := Lib.hid h2
  have H3 := Lib.hid h3
  obtain ⟨k1, k2, bb⟩ := two_boxes w 82 #[.int .i64 k, .int .i64 i, .int .i64 o, .slice a0 ws.length c0, .slice a1 bs.length c1] #[.int .i64 k', .int .i64 i', .int .i64 o', .slice b0 ws'.length d0, .slice b1 bs'.length d1]
  have K1 := Lib.hid k1
  have K2 := Lib.hid k2
  have B := Lib.hid bb
  clear h0 h1 h2 h3 k1 k2 bb
  have HF := Lib.hid (fun W => c_sameFormS k i o k' i' o' a0 a1 b0 b1 ws.length bs.length ws'.length bs'.length c0 c1 d0 d1 W)
  have HC1 := Lib.hid (fun W (hb : Below w.heap.size w W) => c_sameLists a0 b0 c0 d0 ws ws' W (H0.out.kept hb) (H2.out.kept hb))
  have HC2 := Lib.hid (fun W (hb : Below w.heap.size w W) => c_sameLists a1 b1 c1 d1 bs bs' W (H1.out.kept hb) (H3.out.kept hb))
  obtain ⟨f, hf⟩ : ∃ f, (decide (k = k') && (decide (i = i') && decide (o = o'))) = f := ⟨_, rfl⟩
  obtain ⟨s, hs⟩ : ∃ s, sameB ws ws' = s := ⟨_, rfl⟩
  obtain ⟨t, ht⟩ : ∃ t, sameB bs bs' = t := ⟨_, rfl⟩
  have HE := Lib.hid (show (f && (s && t)) = (decide (k = k') && (decide (i = i') && (decide (o = o') && (sameB ws ws' && sameB bs bs')))) by rw [← hf, ← hs, ← ht]; simp only [Bool.and_assoc])
  rw [hf] at HF
  rw [hs] at HC1
  rw [ht] at HC2
  clear hf hs ht
  go_enter Try.func55, Try.ntmps55
  go_upto_region 1 with fail
  generalize (w.alloc (.cells #[.int .i64 k, .int .i64 i, .int .i64 o, .slice a0 ws.length c0, .slice a1 bs.length c1] 82)).alloc (.cells #[.int .i64 k', .int .i64 i', .int .i64 o', .slice b0 ws'.length d0, .slice b1 bs'.length d1] 82) = w1 at K1 K2 B ⊢
  obtain ⟨p0, p1, p2, p3, p4, pl⟩ := tb5 K1.out
  obtain ⟨q0, q1, q2, q3, q4, ql⟩ := tb5 K2.out
  go_wp2_with fail
  refine (HF.out _).mono ?_
  rintro e w2 ⟨rfl, hb⟩
  have K1b := Lib.hid (K1.out.below hb)
  have K2b := Lib.hid (K2.out.below hb)
  have B2 := Lib.hid (Below.next B.out hb)
  clear hb p0 p1 p2 p3 p4 pl q0 q1 q2 q3 q4 ql
  obtain ⟨p0, p1, p2, p3, p4, pl⟩ := tb5 K1b.out
  obtain ⟨q0, q1, q2, q3, q4, ql⟩ := tb5 K2b.out
  cases f with
  | false =>
    go_wp2_with fail
    go_ret
    exact ⟨ret_b (by rw [← HE.out]; rfl), B2.out⟩
  | true =>
  cases s with
  | false =>
    go_wp2_with fail
    refine (HC1.out _ B2.out).mono ?_
    rintro e w3 ⟨rfl, rfl⟩
    go_wp2_with fail
    go_ret
    exact ⟨ret_b (by rw [← HE.out]; rfl), B2.out⟩
  | true =>
    go_wp2_with fail
    refine (HC1.out _ B2.out).mono ?_
    rintro e w3 ⟨rfl, rfl⟩
    go_wp2_with fail
    refine (HC2.out _ B2.out).mono ?_
    rintro e w3 ⟨rfl, rfl⟩
    go_wp2_with fail
    go_ret
    exact ⟨ret_b (by rw [← HE.out]; simp), B2.out⟩
def EqLRel (ls ls' : List LayA) (n : Nat) (w : World) (i : Value) (wr : World) : Prop := ∃ k : Nat, k ≤ n ∧ i = .int .i64 k ∧ (ls.take k).map (fun x => x.p.can) = (ls'.take k).map (fun x => x.p.can) ∧ Below w.heap.size w wr
set_option maxRecDepth 20000 in
set_option maxHeartbeats 2000000 in
theorem c_EqLs (g g' : Option Addr) (c c' n n' : Nat) (ls ls' : List LayA) (w : World) (h : LaysAt w g n c ls) (h' : LaysAt w g' n' c' ls') :
    Calls Try.prog 54 #[.slice g n c, .slice g' n' c', .func (.func 55) #[] #[]] w fun e w' => e = .returned (.bool (sameLs ls ls')) ∧ Below w.heap.size w w' := by
  have hn : n ≤ 9223372036854775807 := by have h1 := h.2.1; have h2 := h.2.2.1; unfold maxLen at h2; omega
  have hn' : n' ≤ 9223372036854775807 := by have h1 := h'.2.1; have h2 := h'.2.2.1; unfold maxLen at h2; omega
  have hN := h.1
  have hN' := h'.1
  obtain ⟨s, hs⟩ : ∃ s, sameLs ls ls' = s := ⟨_, rfl⟩
  have HS := Lib.hid hs
  rw [hs]
  by_cases hl : n = n'
  case neg =>
    have HF := Lib.hid (show false = s by rw [← hs]; exact (decide_eq_false (map_len (by omega))).symm)
    have hne : ¬ (n : Int) = (n' : Int) := by omega
    clear h h' hs hl hN hN'
    go_enter Try.func54, Try.ntmps54
    go_wp2_with fail
    go_ret
    exact ⟨ret_b HF.out, Below.refl _ _⟩
  case pos =>
  subst hl
  have H := Lib.hid h
  have H' := Lib.hid h'
  have HN := Lib.hid hN
  have HN' := Lib.hid hN'
  clear h h' hs hN hN'
  go_enter Try.func54, Try.ntmps54
  go_wp2
  go_loopw [17] (fun i wr => EqLRel ls ls' n w i wr) (fun i _ => n - (intOf i).toNat)
  case atStart => exact ⟨0, Nat.zero_le _, rfl, rfl, Below.refl _ _⟩
  case round =>
    obtain ⟨k, hk, rfl, he, hb⟩ := hrel
    have HE := Lib.hid he
    have HB := Lib.hid hb
    clear he hb
    by_cases hlt : k < n
    · obtain ⟨b, off, kk, i, o, ws, bs, a0, c0, a1, c1, rfl, hbk, hx, q0, q1, q2, q3, q4, f0, f1⟩ := (H.out.kept HB.out).one hlt
      obtain ⟨b', off', kk', i', o', ws', bs', a0', c0', a1', c1', rfl, hbk', hx', q0', q1', q2', q3', q4', f0', f1'⟩ := (H'.out.kept HB.out).one hlt
      have HX := Lib.hid hx
      have HX' := Lib.hid hx'
      have HF0 := Lib.hid f0
      have HF1 := Lib.hid f1
      have HF0' := Lib.hid f0'
      have HF1' := Lib.hid f1'
      have hlt' : (k : Int) < (n : Int) := by omega
      have hk0 : (0 : Int) ≤ (k : Int) := by omega
      obtain ⟨k1, k2, bb⟩ := two_boxes wr 82 #[.int .i64 kk, .int .i64 i, .int .i64 o, .slice a0 ws.length c0, .slice a1 bs.length c1] #[.int .i64 kk', .int .i64 i', .int .i64 o', .slice a0' ws'.length c0', .slice a1' bs'.length c1']
      have BB := Lib.hid bb
      clear hx hx' f0 f1 f0' f1' k1 k2 bb
      go_wp2_with fail
      refine (c_sameLayers kk i o kk' i' o' a0 a1 a0' a1' c0 c1 c0' c1' ws bs ws' bs' _ (HF0.out.kept BB.out) (HF1.out.kept BB.out) (HF0'.out.kept BB.out) (HF1'.out.kept BB.out)).mono ?_
      rintro e wz ⟨rfl, hb⟩
      have HB2 := Lib.hid (Below.next (Below.next HB.out BB.out) hb)
      clear hb q0 q1 q2 q3 q4 q0' q1' q2' q3' q4'
      by_cases heq : kk = kk' ∧ i = i' ∧ o = o' ∧ ws.map (canon .f32) = ws'.map (canon .f32) ∧ bs.map (canon .f32) = bs'.map (canon .f32)
      · have HQ := Lib.hid heq
        rw [show (decide (kk = kk') && (decide (i = i') && (decide (o = o') && (sameB ws ws' && sameB bs bs')))) = true by
          obtain ⟨h1, h2, h3, h4, h5⟩ := heq
          rw [decide_eq_true h1, decide_eq_true h2, decide_eq_true h3, sameB_true h4, sameB_true h5]; rfl]
        clear heq
        go_wp2_with fail
        go_roundw
        case rel => exact ⟨k + 1, by omega, by go_num, map_take HE.out HX.out HX'.out (lay_can.2 HQ.out), HB2.out⟩
        case measure => simp [intOf]; omega
      · have HF2 := Lib.hid (show false = s by rw [← HS.out]; exact (decide_eq_false (map_ne (f := fun x : LayA => x.p.can) HX.out HX'.out (fun h => heq (lay_can.1 h)))).symm)
        rw [show (decide (kk = kk') && (decide (i = i') && (decide (o = o') && (sameB ws ws' && sameB bs bs')))) = false by
          rw [Bool.eq_false_iff]
          intro h
          simp only [Bool.and_eq_true, decide_eq_true_eq, sameB] at h
          exact heq h]
        clear heq
        go_wp2_with fail
        go_ret
        exact ⟨ret_b HF2.out, HB2.out⟩
    · obtain rfl : k = n := by omega
      have HT := Lib.hid (show true = s by
        rw [← HS.out]
        have h1 := HE.out
        have e1 := HN.out
        have e2 := HN'.out
        rw [List.take_of_length_le (by omega), List.take_of_length_le (by omega)] at h1
        exact (decide_eq_true h1).symm)
      go_wp2
      go_ret
      exact ⟨ret_b HT.out, HB.out⟩
end Go.Proofs.Ytlddonneccihiaa
