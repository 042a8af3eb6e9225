/-
  The journal of lines: its values, and the model's. Conditions: the lines can be read.
-/
import Derived.Test.YtokminhnkmhneaaDoorTlm
import Derived.Test.YtokminhnkmhneaaDoorCheck
import Derived.Test.YtokminhnkmhneaaDoorSrs
import Derived.Test.YtokminhnkmhneaaDoorVal
namespace Go.Proofs.YtokminhnkmhneaaDoor
open Go.RowKit Go.Deep Go.WideShapes Go.ChangeShapes
set_option linter.unusedVariables false
set_option linter.unusedSimpArgs false
attribute [local go_sem] World.drewN_zero
attribute [local go_sem] txt_size

def jline (c : Int) (l : List UInt8) : List UInt8 := ((Lib.itoa (chk c l) ++ [32]) ++ l) ++ [10]
/-- the last check number and the journal of lines -/
def jst (ls : List (List UInt8)) : Int × List UInt8 := ls.foldl (fun p l => (chk p.1 l, p.2 ++ jline p.1 l)) (0, [])
theorem jst_snoc (ls : List (List UInt8)) (l : List UInt8) : jst (ls ++ [l]) = (chk (jst ls).1 l, (jst ls).2 ++ jline (jst ls).1 l) := by
  unfold jst
  rw [List.foldl_append]
  rfl
theorem jst_bd (ls : List (List UInt8)) : 0 ≤ (jst ls).1 ∧ (jst ls).1 ≤ 65002 := by
  unfold jst
  have : ∀ (p : Int × List UInt8), 0 ≤ p.1 ∧ p.1 ≤ 65002 → 0 ≤ (ls.foldl (fun p l => (chk p.1 l, p.2 ++ jline p.1 l)) p).1 ∧ (ls.foldl (fun p l => (chk p.1 l, p.2 ++ jline p.1 l)) p).1 ≤ 65002 := by
    induction ls with
    | nil => exact fun p h => h
    | cons x r ih => exact fun p h => ih _ (chk_bd h.1 h.2 x)
  exact this (0, []) (by decide)
theorem jst_grows (ls ms : List (List UInt8)) : (jst ls).2.length ≤ (jst (ls ++ ms)).2.length := by
  unfold jst
  rw [List.foldl_append]
  generalize ls.foldl (fun p l => (chk p.1 l, p.2 ++ jline p.1 l)) (0, []) = p
  induction ms generalizing p with
  | nil => exact Nat.le_refl _
  | cons x r ih =>
    refine Nat.le_trans ?_ (ih _)
    simp only [List.length_append]
    omega
theorem itoa_pos (n : Int) : 1 ≤ (Lib.itoa n).length := by
  rw [itoa_of]
  split
  · simp
  · rw [Lib.decDigits_length]; exact Lib.nDigits_pos _
theorem jline_len {c : Int} (h0 : 0 ≤ c) (h1 : c ≤ 65002) (l : List UInt8) : l.length + 3 ≤ (jline c l).length ∧ (jline c l).length ≤ l.length + 23 := by
  have hb := chk_bd h0 h1 l
  have h := Lib.itoa_length_le (chk c l) (by omega) (by omega)
  have h2 := itoa_pos (chk c l)
  unfold jline
  simp only [List.length_append, List.length_cons, List.length_nil]
  omega
def lsOf (ss : List ByteArray) : List (List UInt8) := ss.map (·.data.toList)
theorem lsOf_next {ss : List ByteArray} {k : Nat} {l : List UInt8} (h : ss[k]? = some ⟨l.toArray⟩) : lsOf (ss.take (k + 1)) = lsOf (ss.take k) ++ [l] := by
  unfold lsOf
  rw [List.take_add_one, h, List.map_append]
  simp
theorem jst_next {ss : List ByteArray} {k : Nat} {l : List UInt8} (h : ss[k]? = some ⟨l.toArray⟩) : jst (lsOf (ss.take (k + 1))) = (chk (jst (lsOf (ss.take k))).1 l, (jst (lsOf (ss.take k))).2 ++ jline (jst (lsOf (ss.take k))).1 l) := by
  rw [lsOf_next h, jst_snoc]
/-- the least length of the journal of the first lines -/
def jmin (ss : List ByteArray) (k : Nat) : Nat := cntStr (ss.take k) + 3 * min k ss.length
theorem jmin_next {ss : List ByteArray} {k : Nat} {l : List UInt8} (h : ss[k]? = some ⟨l.toArray⟩) : jmin ss (k + 1) = jmin ss k + (l.length + 3) := by
  have hk : k < ss.length := (List.getElem?_eq_some_iff.1 h).1
  unfold jmin
  rw [cntStr_take h, txt_size, Nat.min_eq_left (by omega), Nat.min_eq_left (by omega)]
  omega
theorem jst_between (ss : List ByteArray) (k : Nat) (hk : k ≤ ss.length) : jmin ss k ≤ (jst (lsOf (ss.take k))).2.length ∧ (jst (lsOf (ss.take k))).2.length ≤ jmin ss k + 20 * k := by
  induction k with
  | zero => simp [jmin, cntStr, lsOf, jst]
  | succ k ih =>
    obtain ⟨l, hl⟩ : ∃ l : List UInt8, ss[k]'(by omega) = ⟨l.toArray⟩ := ⟨(ss[k]'(by omega)).data.toList, by simp⟩
    have hx : ss[k]? = some ⟨l.toArray⟩ := by rw [List.getElem?_eq_getElem (by omega), hl]
    have h := ih (by omega)
    have hb := jst_bd (lsOf (ss.take k))
    have hl2 := jline_len hb.1 hb.2 l
    rw [jst_next hx, jmin_next hx]
    simp only [List.length_append]
    omega
def JnRel (ss : List ByteArray) (n : Nat) (w : World) (s c i : Value) (wr : World) : Prop :=
  ∃ k : Nat, k ≤ n ∧ i = .int .i64 k ∧ c = .int .i64 (jst (lsOf (ss.take k))).1 ∧ s = .string ⟨(jst (lsOf (ss.take k))).2.toArray⟩ ∧ Below w.heap.size w wr
set_option maxRecDepth 20000 in
set_option maxHeartbeats 2000000 in
theorem c_l11Journal (a : Option Addr) (n cap : Nat) (ss : List ByteArray) (w : World) (h : IsStrs w a n cap ss) (hm : jmin ss n ≤ 8000) : Calls Tryd.prog 70 #[.slice a n cap] w fun e w' => e = .returned (.string ⟨(jst (lsOf ss)).2.toArray⟩) ∧ Below w.heap.size w w' := by
  have hln : ss.length = n := h.1
  have H := Lib.hid h
  have HN := Lib.hid hln
  have hn8 : n ≤ 2667 := by unfold jmin at hm; rw [hln, Nat.min_self] at hm; omega
  have HM := Lib.hid (fun k (hk : k ≤ n) => show (jst (lsOf (ss.take k))).2.length ≤ 100000 by
    have h1 := (jst_between ss k (by omega)).2
    have h2 : jmin ss k ≤ jmin ss n := by
      unfold jmin
      have := cntStr_le (ss.take n) k
      rw [List.take_take, Nat.min_eq_left hk] at this
      rw [hln, Nat.min_eq_left hk, Nat.min_self]
      omega
    omega)
  have HSZ := Lib.hid (fun k (x : ByteArray) (hx : ss[k]? = some x) => show x.size ≤ 8000 by
    have h1 := cntStr_take hx
    have h2 := cntStr_le ss (k + 1)
    have h3 : cntStr ss ≤ 8000 := by unfold jmin at hm; rw [List.take_of_length_le (by omega)] at hm; omega
    omega)
  have hni : (n : Int) ≤ 2667 := by omega
  clear h hm hn8
  go_enter Tryd.func70, Tryd.ntmps70
  go_wp2_with fail
  go_loopw [3, 4, 5] (fun s c i wr => JnRel ss n w s c i wr) (fun _ _ i _ => n - (intOf i).toNat)
  case atStart => exact ⟨0, Nat.zero_le _, rfl, rfl, rfl, Below.refl _ _⟩
  case round =>
    obtain ⟨k, hk, rfl, rfl, rfl, hb⟩ := hrel
    have HB := Lib.hid hb
    have hk0 : (0 : Int) ≤ (k : Int) := by omega
    clear hb
    by_cases hlt : k < n
    · have hlt' : (k : Int) < (n : Int) := by omega
      obtain ⟨b, off, x, rfl, hbl, hx, hc, hmx⟩ := (H.out.kept HB.out).one hlt
      obtain ⟨l, rfl⟩ : ∃ l : List UInt8, x = ⟨l.toArray⟩ := ⟨x.data.toList, by simp⟩
      have hsz := HSZ.out k _ hx
      rw [txt_size] at hsz
      have HS := Lib.hid (jst_next hx)
      have hbd := jst_bd (lsOf (ss.take k))
      have hLL := HM.out k hk
      obtain ⟨c, hcc⟩ : ∃ c, (jst (lsOf (ss.take k))).1 = c := ⟨_, rfl⟩
      obtain ⟨L, hL⟩ : ∃ L, (jst (lsOf (ss.take k))).2 = L := ⟨_, rfl⟩
      rw [hcc, hL] at HS
      rw [hcc] at hbd ⊢
      rw [hL] at hLL ⊢
      have HCK := Lib.hid (fun W => c_l01Check c ⟨l.toArray⟩ hbd.1 hbd.2 hmx W)
      have hcb := chk_bd hbd.1 hbd.2 l
      obtain ⟨q, hq⟩ : ∃ q, chk c l = q := ⟨_, rfl⟩
      have hdl := Lib.itoa_length_le q (by rw [← hq]; omega) (by rw [← hq]; omega)
      have HD := Lib.hid (fun W => c_l01Dec q (by rw [← hq]; omega) (by rw [← hq]; omega) W)
      obtain ⟨D, hD⟩ : ∃ D, Lib.itoa q = D := ⟨_, rfl⟩
      have HJ := Lib.hid (show jline c l = ((D ++ [32]) ++ l) ++ [10] by unfold jline; rw [hq, hD])
      have HQ := Lib.hid hq
      rw [hD] at hdl HD
      have t1 : ¬ 9223372036854775807 < D.length + 1 := by omega
      have t2 : ¬ 9223372036854775807 < D.length + 1 + l.length := by omega
      have t3 : ¬ 9223372036854775807 < D.length + 1 + l.length + 1 := by omega
      have t4 : ¬ 9223372036854775807 < L.length + (D.length + 1 + l.length + 1) := by omega
      have HBK := Lib.hid hbl
      have bl : Below wr.heap.size wr wr.drew := (Below.refl _ _).drew
      have BD := Lib.hid (Below.next HB.out bl)
      clear hx hL hcc hmx hsz hbd hLL hcb hdl hq hD bl hbl
      go_wp2_with fail
      refine (HCK.out wr).mono ?_
      rintro e w2 ⟨rfl, rfl⟩
      rw [HQ.out]
      go_wp2_with fail
      go_region_held3 (fun w' => w'.cell? ⟨b, off + k, none⟩ = some (.string ⟨l.toArray⟩)) (go_keep)
        (first
          | (go_at_call 52
             refine (HD.out wr.drew).mono ?_
             rintro e w2 ⟨rfl, bl⟩
             have B2 := Lib.hid (Below.next BD.out bl)
             have hc2 := (bl.cell (p := ⟨b, off + k, none⟩) (by simpa using HBK.out)).trans (by simpa using hc)
             clear bl hc
             have hc := hc2
             clear hc2))
      all_goals
        go_wp2_with fail
        go_roundw
        case rel => exact ⟨k + 1, hlt, by go_num, by rw [HS.out, HQ.out], by rw [HS.out, HJ.out, ← txt_append, ← txt_append, ← txt_append, ← txt_append], B2.out⟩
        case measure => simp [intOf]; omega
    · obtain rfl : k = n := by omega
      rw [List.take_of_length_le (by rw [HN.out]; exact Nat.le_refl _)]
      go_wp2_with fail
      go_ret
      exact ⟨rfl, HB.out⟩
end Go.Proofs.YtokminhnkmhneaaDoor
