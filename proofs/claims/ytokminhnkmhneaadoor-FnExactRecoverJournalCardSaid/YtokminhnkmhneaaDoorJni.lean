/-
  JournalOf: the program's. Conditions: the lines can be read, the table of powers of ten is as its initialiser lays it.
-/
import Derived.Test.YtokminhnkmhneaaDoorJno
import Derived.Test.YtokminhnkmhneaaDoorBld
import Derived.Test.YtokminhnkmhneaaDoorDci
namespace Go.Proofs.YtokminhnkmhneaaDoor
open Go.RowKit Go.Deep Go.WideShapes Go.ChangeShapes
set_option linter.unusedVariables false
set_option linter.unusedSimpArgs false
attribute [local go_sem] txt_size

theorem len_size (x : ByteArray) : x.data.toList.length = x.size := Array.length_toList
theorem index_has (l : List UInt8) (c : UInt8) : decide (0 ≤ Lib.indexByte l c) = l.contains c := by
  induction l with
  | nil => rfl
  | cons b l ih =>
    rw [Lib.indexByte]
    by_cases h : b = c
    · subst h
      simp
    · have h2 : (b == c) = false := by simpa using h
      have h3 : (c == b) = false := by simpa using fun e : c = b => h e.symm
      rw [h2, List.contains_cons, h3, Bool.false_or, ← ih]
      have h1 := Lib.indexByte_ge l c
      simp only [Bool.false_eq_true, if_false, beq_iff_eq]
      rw [decide_eq_decide]
      split
      · omega
      · omega
theorem c_hasNl (x : ByteArray) (w : World) : Calls Tryd.prog 73 #[.string x, .string ⟨#[10]⟩] w fun e w' => e = .returned (.bool (!noNl x)) ∧ w = w' := by
  refine (Any.strings_Contains_one lays144 x 10 w).mono ?_
  rintro e w' ⟨rfl, rfl⟩
  exact ⟨ret_b (by rw [index_has]; simp [noNl]), rfl⟩
set_option maxRecDepth 20000 in
set_option maxHeartbeats 2000000 in
theorem c_journalLine (c : Int) (x : ByteArray) (w : World) (h0 : 0 ≤ c) (h1 : c ≤ 65002) (hx : x.size ≤ 1048576) (ht : TabOk w) : Calls Tryd.prog 71 #[.int .i64 c, .string x] w fun e w' => e = .returned (.tuple #[.string ⟨(jline c x.data.toList).toArray⟩, .int .i64 (chk c x.data.toList)]) ∧ Below w.heap.size w w' := by
  have hcb := chk_bd h0 h1 x.data.toList
  have HC := Lib.hid (c_iCheckOf c x h0 h1 (by unfold maxLen; omega) w)
  obtain ⟨l, rfl⟩ : ∃ l : List UInt8, x = ⟨l.toArray⟩ := ⟨x.data.toList, by simp⟩
  rw [txt_size] at hx
  have el : (⟨l.toArray⟩ : ByteArray).data.toList = l := by simp
  rw [el] at hcb HC ⊢
  obtain ⟨q, hq⟩ : ∃ q, chk c l = q := ⟨_, rfl⟩
  rw [hq] at hcb HC ⊢
  have hdl := Lib.itoa_length_le q (by omega) (by omega)
  have HD := Lib.hid (c_iDecimal q (by omega) (by omega) w ht)
  obtain ⟨D, hD⟩ : ∃ D, Lib.itoa q = D := ⟨_, rfl⟩
  have HJ := Lib.hid (show jline c l = ((D ++ [32]) ++ l) ++ [10] by unfold jline; rw [hq, hD])
  rw [hD] at hdl HD
  have t1 : ¬ 9223372036854775807 < D.length + 1 := by omega
  have t2 : ¬ 9223372036854775807 < D.length + 1 + l.length := by omega
  have t3 : ¬ 9223372036854775807 < D.length + 1 + l.length + 1 := by omega
  clear hcb hdl hq hD h0 h1 hx ht el
  go_enter Tryd.func71, Tryd.ntmps71
  go_wp2_with fail
  refine HC.out.mono ?_
  rintro e w2 ⟨rfl, rfl⟩
  go_wp2_with fail
  refine HD.out.mono ?_
  rintro e w2 ⟨rfl, hb⟩
  have HB := Lib.hid hb
  clear hb
  go_wp2_with fail
  go_ret2
  exact ⟨by rw [HJ.out, ← txt_append, ← txt_append, ← txt_append]; rfl, HB.out⟩
def JiRel (ss : List ByteArray) (n B : Nat) (w : World) (c i : Value) (wr : World) : Prop :=
  ∃ k : Nat, k ≤ n ∧ i = .int .i64 k ∧ c = .int .i64 (jst (lsOf (ss.take k))).1 ∧ IsB wr B B (jst (lsOf (ss.take k))).2 ∧ (ss.take k).all noNl = true ∧ (jst (lsOf (ss.take k))).2.length ≤ 8000 ∧ Below B w wr
set_option maxRecDepth 20000 in
set_option maxHeartbeats 2000000 in
theorem t_iJournalOf (a : Option Addr) (n cap : Nat) (ss : List ByteArray) (w : World) (h : IsStrs w a n cap ss) (hs : n + cntStr ss ≤ 1048576) (ht : TabOk w) : Calls Tryd.prog 37 #[.slice a n cap] w fun e w' => e = .returned (.tuple #[.string (vJournalOf ss).1, .bool (vJournalOf ss).2]) ∧ Below w.heap.size w w' := by
  have hln : ss.length = n := h.1
  have H := Lib.hid h
  have HN := Lib.hid hln
  have HT := Lib.hid ht
  have HSZ := Lib.hid (fun k (x : ByteArray) (hx : ss[k]? = some x) => show x.size ≤ 1048576 by
    have h1 := cntStr_take hx
    have h2 := cntStr_le ss (k + 1)
    omega)
  have hn : n ≤ 1048576 := by omega
  have I0 := Lib.hid (isB_new w)
  have B0 := Lib.hid ((Below.refl w.heap.size w).alloc (Nat.le_refl _) (.cells #[.pointer none, .slice none 0 0] 85))
  clear h hln hs ht
  go_enter Tryd.func37, Tryd.ntmps37
  go_wp2_with fail
  go_loopw [5, 11] (fun c i wr => JiRel ss n w.heap.size w c i wr) (fun _ i _ => n - (intOf i).toNat)
  case atStart => exact ⟨0, Nat.zero_le _, rfl, rfl, I0.out, rfl, Nat.zero_le _, B0.out⟩
  case round =>
    obtain ⟨k, hk, rfl, rfl, hi, hal, hl8, hb⟩ := hrel
    have HA := Lib.hid hal
    have HI := Lib.hid hi
    have HB := Lib.hid hb
    have hk0 : (0 : Int) ≤ (k : Int) := by omega
    clear hal hi hb
    by_cases hlt : k < n
    · have hlt' : (k : Int) < (n : Int) := by omega
      obtain ⟨b, off, x, rfl, hbl, hx, hc0, _⟩ := H.out.one hlt
      have hc := (HB.out.cell (p := ⟨b, off + k, none⟩) hbl).trans hc0
      have hxs := HSZ.out k x hx
      have HX := Lib.hid hx
      have hbd := jst_bd (lsOf (ss.take k))
      have HS := Lib.hid (show jst (lsOf (ss.take (k + 1))) = (chk (jst (lsOf (ss.take k))).1 x.data.toList, (jst (lsOf (ss.take k))).2 ++ jline (jst (lsOf (ss.take k))).1 x.data.toList) from jst_next (by rw [hx]))
      have HLN := Lib.hid (jline_len hbd.1 hbd.2 x.data.toList)
      have HP := Lib.hid (jst_prefix ss (k + 1))
      obtain ⟨c, hcc⟩ : ∃ c, (jst (lsOf (ss.take k))).1 = c := ⟨_, rfl⟩
      obtain ⟨L, hL⟩ : ∃ L, (jst (lsOf (ss.take k))).2 = L := ⟨_, rfl⟩
      rw [hcc, hL] at HS
      rw [hcc] at hbd HLN ⊢
      rw [hL] at hl8 HI
      have HJL := Lib.hid (c_journalLine c x wr hbd.1 hbd.2 hxs (HT.out.kept (HB.out.mono (Nat.le_refl _))))
      obtain ⟨J, hJ⟩ : ∃ J, jline c x.data.toList = J := ⟨_, rfl⟩
      obtain ⟨q, hq⟩ : ∃ q, chk c x.data.toList = q := ⟨_, rfl⟩
      rw [hJ] at HS HLN HJL
      rw [hq] at HS HJL
      have hxl := len_size x
      have hJ8 : J.length ≤ 1048599 := by have := HLN.out.2; omega
      have HL8 := Lib.hid hl8
      have HJ8 := Lib.hid hJ8
      have HBL := Lib.hid hbl
      clear hx hcc hL hbd hJ hq hxl hxs hJ8 hl8 hc0 hbl
      go_wp2_with fail
      refine HJL.out.mono ?_
      rintro e w2 ⟨rfl, hb⟩
      have B2 := Lib.hid (Below.next HB.out hb)
      have I2 := Lib.hid (HI.out.kept hb)
      clear hb
      have HW := Lib.hid (c_bString w.heap.size w.heap.size L J w2 I2.out (by have := HL8.out; have := HJ8.out; omega) B2.out.size)
      go_wp2_with fail
      refine HW.out.mono ?_
      rintro e w3 ⟨rfl, hi, hb⟩
      have I3 := Lib.hid hi
      have B3 := Lib.hid (B2.out.trans hb)
      clear hi hb
      cases hno : noNl x with
      | false =>
        have HV := Lib.hid (jno_line HX.out hno)
        have HCN := Lib.hid (c_hasNl x w3)
        rw [hno] at HCN
        clear hno
        go_wp2_with fail
        refine HCN.out.mono ?_
        rintro e w4 ⟨rfl, rfl⟩
        go_wp2_with fail
        go_ret2
        exact ⟨by rw [HV.out]; rfl, B3.out⟩
      | true =>
        have HAN := Lib.hid (jno_all HX.out HA.out hno)
        have HCN := Lib.hid (c_hasNl x w3)
        rw [hno] at HCN
        have HLE := Lib.hid (c_bLen w.heap.size w.heap.size (L ++ J) w3 I3.out)
        obtain ⟨M, hM⟩ : ∃ M, L ++ J = M := ⟨_, rfl⟩
        rw [hM] at HLE I3 HS
        have hM8 : (M.length : Int) ≤ 2097152 := by
          have h1 := HL8.out
          have h2 := HJ8.out
          rw [← hM, List.length_append]
          omega
        clear hno hM
        by_cases h8 : M.length ≤ 8000
        · have h8' : ¬ (8000 : Int) < (M.length : Int) := by omega
          have H8 := Lib.hid h8
          clear h8
          go_wp2_with fail
          refine HCN.out.mono ?_
          rintro e w4 ⟨rfl, rfl⟩
          go_wp2_with fail
          refine HLE.out.mono ?_
          rintro e w4 ⟨rfl, rfl⟩
          go_wp2_with fail
          go_roundw
          case rel => exact ⟨k + 1, hlt, by go_num, by rw [HS.out], by rw [HS.out]; exact I3.out, HAN.out, by rw [HS.out]; exact H8.out, B3.out⟩
          case measure => simp [intOf]; omega
        · have h8' : (8000 : Int) < (M.length : Int) := by omega
          have HV := Lib.hid (jno_long (ss := ss) (by have h1 := HP.out; rw [HS.out] at h1; have h2 : M.length ≤ (jst (lsOf ss)).2.length := h1; omega))
          clear h8
          go_wp2_with fail
          refine HCN.out.mono ?_
          rintro e w4 ⟨rfl, rfl⟩
          go_wp2_with fail
          refine HLE.out.mono ?_
          rintro e w4 ⟨rfl, rfl⟩
          go_wp2_with fail
          go_ret2
          exact ⟨by rw [HV.out]; rfl, B3.out⟩
    · obtain rfl : k = n := by omega
      have hall : ss.take k = ss := List.take_of_length_le (by rw [HN.out]; exact Nat.le_refl _)
      rw [hall] at HA HI hl8
      have HV := Lib.hid (jno_yes HA.out hl8)
      have HW := Lib.hid (c_bText w.heap.size w.heap.size (jst (lsOf ss)).2 wr HI.out HB.out.size)
      clear hall hl8
      go_wp2_with fail
      refine HW.out.mono ?_
      rintro e w3 ⟨rfl, hb⟩
      have B3 := Lib.hid (HB.out.trans hb)
      clear hb
      go_wp2_with fail
      go_ret2
      exact ⟨by rw [HV.out]; rfl, B3.out⟩
end Go.Proofs.YtokminhnkmhneaaDoor
