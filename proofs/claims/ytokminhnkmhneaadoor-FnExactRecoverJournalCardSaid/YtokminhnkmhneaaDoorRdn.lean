/-
  ReadDecimal: its values, and the model's. Conditions: the text's length is one of a string.
-/
import Derived.Test.YtokminhnkmhneaaDoorLtx
import Derived.Test.YtokminhnkmhneaaDoorCheck
import Derived.Lib.AtoiTie
import Derived.Lib.ParseIntBTie
namespace Go.Proofs.YtokminhnkmhneaaDoor
open Go.RowKit Go.Deep Go.WideShapes Go.ChangeShapes
set_option linter.unusedVariables false
set_option linter.unusedSimpArgs false

def isDig (c : UInt8) : Bool := decide (48 ≤ c.toNat) && decide (c.toNat ≤ 57)
/-- the number of the digits of a text, others left out -/
def digV (l : List UInt8) : Nat := l.foldl (fun n c => if isDig c = true then 10 * n + (c.toNat - 48) else n) 0
theorem digV_snoc (l : List UInt8) (c : UInt8) : digV (l ++ [c]) = if isDig c = true then 10 * digV l + (c.toNat - 48) else digV l := by
  unfold digV
  rw [List.foldl_append]
  rfl
theorem digV_lt (l : List UInt8) : digV l < 10 ^ l.length := by
  have h : ∀ (l : List UInt8) (n : Nat), l.foldl (fun n c => if isDig c = true then 10 * n + (c.toNat - 48) else n) n < (n + 1) * 10 ^ l.length := by
    intro l
    induction l with
    | nil => intro n; simp
    | cons c r ih =>
      intro n
      rw [List.foldl_cons, List.length_cons, Nat.pow_succ]
      refine Nat.lt_of_lt_of_le (ih _) ?_
      rw [Nat.mul_comm (10 ^ r.length) 10, ← Nat.mul_assoc]
      refine Nat.mul_le_mul_right _ ?_
      split
      · rename_i hd
        simp only [isDig, Bool.and_eq_true, decide_eq_true_eq] at hd
        omega
      · omega
  have := h l 0
  unfold digV
  omega
/-- the number of a text: the model's -/
def mv (l : List UInt8) : Int := if l.headD 0 = 45 then -(digV l : Int) else (digV l : Int)
def okRD (l : List UInt8) : Bool := (decide (1 ≤ l.length) && decide (l.length ≤ 17)) && (listable (mv l) && decide (Lib.itoa (mv l) = l))
def vRD (l : List UInt8) : Int × Bool := if okRD l = true then (mv l, true) else (0, false)
theorem vRD_no {l : List UInt8} (h : okRD l = false) : vRD l = (0, false) := by unfold vRD; rw [h]; rfl
theorem vRD_yes {l : List UInt8} (h : okRD l = true) : vRD l = (mv l, true) := by unfold vRD; rw [h]; rfl
theorem dec_digits (u : Nat) : ∀ c ∈ Lib.decDigits u, isDig c = true := by
  induction u using Nat.strongRecOn with
  | _ u ih =>
    intro c hc
    rw [dec_step, List.mem_append, List.mem_singleton] at hc
    rcases hc with hc | rfl
    · unfold dz at hc
      split at hc
      · cases hc
      · exact ih (u / 10) (by omega) c hc
    · unfold isDig
      rw [digit_toNat]
      simp
      omega
theorem dec_ne (u : Nat) : Lib.decDigits u ≠ [] := by
  intro h
  have := Lib.decDigits_length u
  rw [h] at this
  have := Lib.nDigits_pos u
  simp at *
  omega
theorem digV_dec (u : Nat) : digV (Lib.decDigits u) = u := by
  induction u using Nat.strongRecOn with
  | _ u ih =>
    rw [dec_step, digV_snoc, digit_toNat]
    have h1 : isDig (UInt8.ofNat (48 + u % 10)) = true := by unfold isDig; rw [digit_toNat]; simp; omega
    rw [if_pos h1]
    have h2 : digV (dz (u / 10)) = u / 10 := by
      unfold dz
      split
      · rename_i h; rw [h]; rfl
      · exact ih (u / 10) (by omega)
    rw [h2]
    omega
theorem decFrom_app (a b : List UInt8) (acc : Nat) : Lib.decFrom acc (a ++ b) = (Lib.decFrom acc a).bind fun n => Lib.decFrom n b := by
  induction a generalizing acc with
  | nil => rfl
  | cons c r ih =>
    rw [List.cons_append, Lib.decFrom, Lib.decFrom]
    cases Lib.digitVal c with
    | none => rfl
    | some d => exact ih _
theorem decFrom_dec (u : Nat) : Lib.decFrom 0 (Lib.decDigits u) = some u := by
  induction u using Nat.strongRecOn with
  | _ u ih =>
    rw [dec_step, decFrom_app]
    have h2 : Lib.decFrom 0 (dz (u / 10)) = some (u / 10) := by
      unfold dz
      split
      · rename_i h; rw [h]; rfl
      · exact ih (u / 10) (by omega)
    have h3 : Lib.digitVal (UInt8.ofNat (48 + u % 10)) = some (u % 10) := by
      unfold Lib.digitVal
      rw [digit_toNat, if_pos (by omega)]
      congr 1
      omega
    rw [h2]
    show Lib.decFrom (u / 10) [UInt8.ofNat (48 + u % 10)] = some u
    rw [Lib.decFrom, h3]
    show Lib.decFrom (u / 10 * 10 + u % 10) [] = some u
    rw [Lib.decFrom]
    congr 1
    omega
theorem nDigits_few (k : Nat) : ∀ u, u < 10 ^ k → 1 ≤ k → Lib.nDigits u ≤ k := by
  induction k with
  | zero => intro u _ h; omega
  | succ k ih =>
    intro u hu _
    by_cases h : u < 10
    · rw [Lib.nDigits_small h]; omega
    · rw [Lib.nDigits_big h]
      rw [Nat.pow_succ] at hu
      cases k with
      | zero => omega
      | succ k => have := ih (u / 10) (by omega) (by omega); omega
theorem itoa_17 {n : Int} (h : listable n = true) : 1 ≤ (Lib.itoa n).length ∧ (Lib.itoa n).length ≤ 17 := by
  obtain ⟨h1, h2⟩ := listable_of h
  have hk := nDigits_few 16 n.natAbs (by omega) (by omega)
  have hp := Lib.nDigits_pos n.natAbs
  rw [itoa_of]
  split
  · rw [List.length_cons, Lib.decDigits_length]; omega
  · rw [Lib.decDigits_length]; omega
theorem dec_head (u : Nat) : ∃ c r, Lib.decDigits u = c :: r ∧ c.toNat ≠ 45 ∧ c.toNat ≠ 43 := by
  cases h : Lib.decDigits u with
  | nil => exact absurd h (dec_ne u)
  | cons c r =>
    have := dec_digits u c (by rw [h]; exact List.mem_cons_self ..)
    simp only [isDig, Bool.and_eq_true, decide_eq_true_eq] at this
    exact ⟨c, r, rfl, by omega, by omega⟩
theorem mv_itoa (n : Int) : mv (Lib.itoa n) = n := by
  rw [itoa_of]
  unfold mv
  split
  · rename_i h
    rw [List.headD_cons, if_pos rfl]
    have e : digV (45 :: Lib.decDigits n.natAbs) = digV (Lib.decDigits n.natAbs) := by unfold digV; rfl
    rw [e, digV_dec]
    omega
  · rename_i h
    obtain ⟨c, r, e, h1, _⟩ := dec_head n.natAbs
    have hc : ¬ (Lib.decDigits n.natAbs).headD 0 = 45 := by
      rw [e, List.headD_cons]
      intro hh
      rw [hh] at h1
      exact h1 rfl
    rw [if_neg hc, digV_dec]
    omega
theorem atoi_itoa (n : Int) : Lib.atoi (Lib.itoa n) = some n := by
  rw [itoa_of]
  have hd : Lib.decNat (Lib.decDigits n.natAbs) = some n.natAbs := by
    unfold Lib.decNat
    rw [decFrom_dec]
    cases h : Lib.decDigits n.natAbs with
    | nil => exact absurd h (dec_ne _)
    | cons c r => rfl
  split
  · rename_i h
    rw [Lib.atoi]
    simp only [beq_self_eq_true, if_true]
    rw [hd]
    show some (-((n.natAbs : Nat) : Int)) = some n
    congr 1
    omega
  · rename_i h
    obtain ⟨c, r, e, h1, h2⟩ := dec_head n.natAbs
    rw [e] at hd ⊢
    rw [Lib.atoi]
    have b1 : (c == 45) = false := by rw [beq_eq_false_iff_ne]; intro hh; rw [hh] at h1; exact h1 rfl
    have b2 : (c == 43) = false := by rw [beq_eq_false_iff_ne]; intro hh; rw [hh] at h2; exact h2 rfl
    rw [b1, b2, hd]
    show some ((n.natAbs : Nat) : Int) = some n
    congr 1
    omega
theorem parse_itoa {n : Int} (h : listable n = true) : Lib.parseIntB 64 (Lib.itoa n) = .ok n := by
  rw [Lib.parseIntB_64, Lib.atoiAll_short _ (by have := (itoa_17 h).2; omega), atoi_itoa]
  rfl
/-- what the program finds is what the model finds -/
theorem rd_yes {l : List UInt8} {v : Int} (h1 : listable v = true) (h2 : Lib.itoa v = l) : vRD l = (v, true) := by
  subst h2
  have h17 := itoa_17 h1
  rw [vRD_yes, mv_itoa]
  unfold okRD
  rw [mv_itoa, decide_eq_true h17.1, decide_eq_true h17.2, h1, decide_eq_true rfl]
  rfl
theorem rd_ok {l : List UInt8} (h : okRD l = true) : Lib.parseIntB 64 l = .ok (mv l) ∧ listable (mv l) = true ∧ Lib.itoa (mv l) = l := by
  unfold okRD at h
  simp only [Bool.and_eq_true, decide_eq_true_eq] at h
  refine ⟨?_, h.2.1, h.2.2⟩
  conv => lhs; rw [← h.2.2]
  exact parse_itoa h.2.1
theorem rd_no {l : List UInt8} (h : ∀ v, Lib.parseIntB 64 l = .ok v → listable v = true → Lib.itoa v = l → False) : vRD l = (0, false) := by
  refine vRD_no ?_
  cases ho : okRD l with
  | false => rfl
  | true =>
    obtain ⟨h1, h2, h3⟩ := rd_ok ho
    exact (h _ h1 h2 h3).elim
theorem ba_of (x : ByteArray) (l : List UInt8) : (⟨l.toArray⟩ : ByteArray) = x ↔ l = x.data.toList := by
  constructor
  · intro h; rw [← h]
  · intro h
    subst h
    apply ByteArray.ext
    simp
theorem digV_next {x : ByteArray} {k : Nat} (h : k < x.size) : digV (x.data.toList.take (k + 1)) = if isDig x[k] = true then 10 * digV (x.data.toList.take k) + (x[k].toNat - 48) else digV (x.data.toList.take k) := by
  rw [take_byte x k h, digV_snoc]
theorem head_at {x : ByteArray} (h : 0 < x.size) : x.data.toList.headD 0 = x[0] := by
  have h' : 0 < x.data.toList.length := by simpa using h
  cases hl : x.data.toList with
  | nil => rw [hl] at h'; simp at h'
  | cons c r =>
    have e : x.data.toList[0]? = some x[0] := by rw [List.getElem?_eq_getElem h']; rfl
    rw [hl] at e
    simpa using e
theorem byte_eq {c d : UInt8} (h : (c.toNat : Int) = (d.toNat : Int)) : c = d := UInt8.toNat_inj.1 (by omega)
def RvRel (x : ByteArray) (w : World) (s i : Value) (wr : World) : Prop := ∃ k : Nat, k ≤ x.size ∧ i = .int .i64 k ∧ s = .int .i64 ((digV (x.data.toList.take k) : Nat) : Int) ∧ wr = w
set_option maxRecDepth 20000 in
set_option maxHeartbeats 2000000 in
theorem c_l01Value (x : ByteArray) (hx : x.size ≤ maxLen) (w : World) : Calls Tryd.prog 54 #[.string x] w fun e w' => e = .returned (.tuple #[.int .i64 (vRD x.data.toList).1, .bool (vRD x.data.toList).2]) ∧ Below w.heap.size w w' := by
  unfold maxLen at hx
  have hxl : x.data.toList.length = x.size := Array.length_toList
  by_cases h1 : 1 ≤ x.size ∧ x.size ≤ 17
  case neg =>
    have HV := Lib.hid (vRD_no (l := x.data.toList) (by
      unfold okRD
      rw [hxl]
      have : (decide (1 ≤ x.size) && decide (x.size ≤ 17)) = false := by
        rw [Bool.and_eq_false_iff, decide_eq_false_iff_not, decide_eq_false_iff_not]
        omega
      rw [this]
      rfl))
    by_cases h0 : x.size < 1
    · have g0 : (x.size : Int) < 1 := by omega
      clear h1 h0 hxl
      go_enter Tryd.func54, Tryd.ntmps54
      go_wp2_with fail
      go_ret2
      exact ⟨by rw [HV.out]; rfl, Below.refl _ _⟩
    · have g0 : ¬ (x.size : Int) < 1 := by omega
      have g1 : (17 : Int) < (x.size : Int) := by omega
      clear h1 h0 hxl
      go_enter Tryd.func54, Tryd.ntmps54
      go_wp2_with fail
      go_ret2
      exact ⟨by rw [HV.out]; rfl, Below.refl _ _⟩
  case pos =>
    have g0 : ¬ (x.size : Int) < 1 := by omega
    have g1 : ¬ (17 : Int) < (x.size : Int) := by omega
    have H1 := Lib.hid h1
    have HXL := Lib.hid hxl
    have g2 : (x.size : Int) ≤ 17 := by omega
    clear h1 hxl hx
    go_enter Tryd.func54, Tryd.ntmps54
    go_wp2_with fail
    go_loopw [4, 5] (fun s i wr => RvRel x w s i wr) (fun _ i _ => x.size - (intOf i).toNat)
    case atStart => exact ⟨0, Nat.zero_le _, rfl, rfl, rfl⟩
    case round =>
      obtain ⟨k, hk, rfl, rfl, rfl⟩ := hrel
      have hk0 : (0 : Int) ≤ (k : Int) := by omega
      have hdv := digV_lt (x.data.toList.take k)
      have hdv2 : digV (x.data.toList.take k) < 100000000000000000 := by
        have h2 : (x.data.toList.take k).length ≤ 17 := by rw [List.length_take]; have := HXL.out; have := H1.out.2; omega
        have h3 : 10 ^ (x.data.toList.take k).length ≤ 10 ^ 17 := Nat.pow_le_pow_right (by omega) h2
        have h4 : (10 : Nat) ^ 17 = 100000000000000000 := by decide
        omega
      clear hdv
      by_cases hlt : k < x.size
      · have hlt' : (k : Int) < (x.size : Int) := by omega
        have HS := Lib.hid (digV_next hlt)
        have hb : x[k].toNat < 256 := UInt8.toNat_lt _
        obtain ⟨n, hn⟩ : ∃ n, digV (x.data.toList.take k) = n := ⟨_, rfl⟩
        rw [hn] at HS hdv2 ⊢
        have hn1 : (n : Int) ≤ 99999999999999999 := by omega
        have hn0 : (0 : Int) ≤ (n : Int) := by omega
        obtain ⟨c, hc⟩ : ∃ c, x[k].toNat = c := ⟨_, rfl⟩
        have hdig : isDig x[k] = (decide (48 ≤ c) && decide (c ≤ 57)) := by unfold isDig; rw [hc]
        rw [hc, hdig] at HS
        have HC := Lib.hid hc
        have hc0 : (0 : Int) ≤ (c : Int) := by omega
        have hc255 : (c : Int) ≤ 255 := by omega
        clear hn hdig hdv2
        by_cases h48 : 48 ≤ c
        · have d1 : (48 : Int) ≤ (c : Int) := by omega
          by_cases h57 : c ≤ 57
          · have d2 : (c : Int) ≤ 57 := by omega
            have HS2 := Lib.hid (show digV (x.data.toList.take (k + 1)) = 10 * n + (c - 48) by rw [HS.out, decide_eq_true h48, decide_eq_true h57]; rfl)
            clear h48 h57 HS
            go_wp2_with fail
            go_roundw
            case rel => exact ⟨k + 1, hlt, by go_num, by rw [HS2.out]; go_num, rfl⟩
            case measure => simp [intOf]; omega
          · have d2 : ¬ (c : Int) ≤ 57 := by omega
            have HS2 := Lib.hid (show digV (x.data.toList.take (k + 1)) = n by rw [HS.out, decide_eq_true h48, decide_eq_false h57]; rfl)
            clear h48 h57 HS
            go_wp2_with fail
            go_roundw
            case rel => exact ⟨k + 1, hlt, by go_num, by rw [HS2.out], rfl⟩
            case measure => simp [intOf]; omega
        · have d1 : ¬ (48 : Int) ≤ (c : Int) := by omega
          have HS2 := Lib.hid (show digV (x.data.toList.take (k + 1)) = n by rw [HS.out, decide_eq_false h48]; rfl)
          clear h48 HS
          go_wp2_with fail
          go_roundw
          case rel => exact ⟨k + 1, hlt, by go_num, by rw [HS2.out], rfl⟩
          case measure => simp [intOf]; omega
      · obtain hks : k = x.size := by omega
        have hall : x.data.toList.take k = x.data.toList := List.take_of_length_le (by rw [HXL.out]; omega)
        rw [hall] at hdv2 ⊢
        have h0 : 0 < x.size := by have := H1.out.1; omega
        have HHD := Lib.hid (head_at h0)
        have HOK := Lib.hid (show okRD x.data.toList = (listable (mv x.data.toList) && decide (Lib.itoa (mv x.data.toList) = x.data.toList)) by
          unfold okRD
          rw [HXL.out, decide_eq_true H1.out.1, decide_eq_true H1.out.2]
          rfl)
        obtain ⟨n, hn⟩ : ∃ n, digV x.data.toList = n := ⟨_, rfl⟩
        have HN := Lib.hid hn
        rw [hn] at hdv2 ⊢
        have hn1 : (n : Int) ≤ 99999999999999999 := by omega
        have hn0 : (0 : Int) ≤ (n : Int) := by omega
        have hz0 : (0 : Int) < (x.size : Int) := by omega
        have hkz : ¬ (k : Int) < (x.size : Int) := by omega
        have HMV := Lib.hid (show mv x.data.toList = if x[0] = 45 then -(n : Int) else (n : Int) by unfold mv; rw [HHD.out, HN.out])
        clear hn hdv2 hall
        by_cases h45 : x[0] = 45
        · have b45 : ((x[0].toNat : Int) == 45) = true := by rw [h45]; rfl
          have HM := Lib.hid (show mv x.data.toList = -(n : Int) by rw [HMV.out, if_pos h45])
          have HIN := Lib.hid (fun W => c_l00In (-(n : Int)) (-1000000000000000) 1000000000000000 (listable (-(n : Int))) rfl W)
          have HDE := Lib.hid (fun W => c_l01Dec (-(n : Int)) (by omega) (by omega) W)
          rw [HM.out] at HOK
          cases hL : listable (-(n : Int)) with
          | false =>
            rw [hL] at HIN
            have HV := Lib.hid (vRD_no (HOK.out.trans (by rw [hL]; rfl)))
            clear hL h45
            go_wp2_with fail
            refine (HIN.out _).mono ?_
            rintro e w2 ⟨rfl, rfl⟩
            go_wp2_with fail
            go_ret2
            exact ⟨by rw [HV.out]; rfl, Below.refl _ _⟩
          | true =>
            rw [hL] at HIN
            by_cases he : Lib.itoa (-(n : Int)) = x.data.toList
            · have hbe : (Lib.itoa (-(n : Int)) == x.toList) = true := by rw [ByteArray.toList_eq, he]; exact beq_self_eq_true _
              have HV := Lib.hid ((vRD_yes (HOK.out.trans (by rw [hL, decide_eq_true he]; rfl))).trans (by rw [HM.out]))
              clear hL h45 he
              go_wp2_with fail
              refine (HIN.out _).mono ?_
              rintro e w2 ⟨rfl, rfl⟩
              go_wp2_with fail
              refine (HDE.out _).mono ?_
              rintro e w3 ⟨rfl, hb⟩
              have HB := Lib.hid hb
              clear hb
              go_wp2_with fail
              go_ret2
              exact ⟨by rw [HV.out]; rfl, HB.out⟩
            · have hbe : (Lib.itoa (-(n : Int)) == x.toList) = false := by rw [ByteArray.toList_eq, beq_eq_false_iff_ne]; exact he
              have HV := Lib.hid (vRD_no (HOK.out.trans (by rw [hL, decide_eq_false he]; rfl)))
              clear hL h45 he
              go_wp2_with fail
              refine (HIN.out _).mono ?_
              rintro e w2 ⟨rfl, rfl⟩
              go_wp2_with fail
              refine (HDE.out _).mono ?_
              rintro e w3 ⟨rfl, hb⟩
              have HB := Lib.hid hb
              clear hb
              go_wp2_with fail
              go_ret2
              exact ⟨by rw [HV.out]; rfl, HB.out⟩
        · have b45 : ((x[0].toNat : Int) == 45) = false := by rw [beq_eq_false_iff_ne]; exact fun h => h45 (byte_eq h)
          have HM := Lib.hid (show mv x.data.toList = (n : Int) by rw [HMV.out, if_neg h45])
          have HIN := Lib.hid (fun W => c_l00In ((n : Int)) (-1000000000000000) 1000000000000000 (listable ((n : Int))) rfl W)
          have HDE := Lib.hid (fun W => c_l01Dec ((n : Int)) (by omega) (by omega) W)
          rw [HM.out] at HOK
          cases hL : listable ((n : Int)) with
          | false =>
            rw [hL] at HIN
            have HV := Lib.hid (vRD_no (HOK.out.trans (by rw [hL]; rfl)))
            clear hL h45
            go_wp2_with fail
            refine (HIN.out _).mono ?_
            rintro e w2 ⟨rfl, rfl⟩
            go_wp2_with fail
            go_ret2
            exact ⟨by rw [HV.out]; rfl, Below.refl _ _⟩
          | true =>
            rw [hL] at HIN
            by_cases he : Lib.itoa ((n : Int)) = x.data.toList
            · have hbe : (Lib.itoa ((n : Int)) == x.toList) = true := by rw [ByteArray.toList_eq, he]; exact beq_self_eq_true _
              have HV := Lib.hid ((vRD_yes (HOK.out.trans (by rw [hL, decide_eq_true he]; rfl))).trans (by rw [HM.out]))
              clear hL h45 he
              go_wp2_with fail
              refine (HIN.out _).mono ?_
              rintro e w2 ⟨rfl, rfl⟩
              go_wp2_with fail
              refine (HDE.out _).mono ?_
              rintro e w3 ⟨rfl, hb⟩
              have HB := Lib.hid hb
              clear hb
              go_wp2_with fail
              go_ret2
              exact ⟨by rw [HV.out]; rfl, HB.out⟩
            · have hbe : (Lib.itoa ((n : Int)) == x.toList) = false := by rw [ByteArray.toList_eq, beq_eq_false_iff_ne]; exact he
              have HV := Lib.hid (vRD_no (HOK.out.trans (by rw [hL, decide_eq_false he]; rfl)))
              clear hL h45 he
              go_wp2_with fail
              refine (HIN.out _).mono ?_
              rintro e w2 ⟨rfl, rfl⟩
              go_wp2_with fail
              refine (HDE.out _).mono ?_
              rintro e w3 ⟨rfl, hb⟩
              have HB := Lib.hid hb
              clear hb
              go_wp2_with fail
              go_ret2
              exact ⟨by rw [HV.out]; rfl, HB.out⟩
end Go.Proofs.YtokminhnkmhneaaDoor
