/-
  ArchiveOf: the model and the program. Conditions: the texts can be read.
-/
import Derived.Test.YtpobdigmjfapbaaDoorNby
import Derived.Test.YtpobdigmjfapbaaDoorAlt
namespace Go.Proofs.YtpobdigmjfapbaaDoor
open Go.RowKit Go.Deep Go.WideShapes Go.ChangeShapes
set_option linter.unusedVariables false
set_option linter.unusedSimpArgs false
attribute [local go_sem] World.drewN_zero
attribute [local go_sem] size_mk wb_length nb_length

theorem arc_append (a b : List UInt8) : ((⟨a.toArray⟩ : ByteArray) ++ ⟨b.toArray⟩) = ⟨(a ++ b).toArray⟩ := by
  apply ByteArray.ext
  simp
def entB (s : ByteArray) : List UInt8 := wb s.size 4 ++ s.data.toList
def arcB (ss : List ByteArray) (k : Nat) : List UInt8 := (ss.take k).flatMap entB
def entOk (s : ByteArray) : Bool := decide (s.size ≤ 20000)
def arcOk (ss : List ByteArray) : Bool := decide (ss.length ≤ 8) && ss.all entOk
def vArchiveOf (ss : List ByteArray) : ByteArray × Bool := if arcOk ss = true then (⟨(arcB ss ss.length).toArray⟩, true) else (⟨#[]⟩, false)
theorem arcB_succ {ss : List ByteArray} {k : Nat} {l : List UInt8} (h : ss[k]? = some ⟨l.toArray⟩) : arcB ss (k + 1) = arcB ss k ++ (wb l.length 4 ++ l) := by
  unfold arcB
  rw [List.take_add_one, h, List.flatMap_append]
  simp [entB, size_mk]
theorem arcB_len {ss : List ByteArray} (h : ∀ s ∈ ss, s.size ≤ 20000) (k : Nat) : (arcB ss k).length ≤ 20004 * k := by
  induction k with
  | zero => simp [arcB]
  | succ k ih =>
    by_cases hk : k < ss.length
    · obtain ⟨l, hl⟩ : ∃ l : List UInt8, ss[k] = ⟨l.toArray⟩ := ⟨ss[k].data.toList, by simp⟩
      have hx : ss[k]? = some ⟨l.toArray⟩ := by rw [List.getElem?_eq_getElem hk, hl]
      have h1 := h _ (List.getElem_mem hk)
      rw [hl, size_mk] at h1
      rw [arcB_succ hx, List.length_append, List.length_append, wb_length]
      omega
    · have e : arcB ss (k + 1) = arcB ss k := by unfold arcB; rw [List.take_of_length_le (by omega), List.take_of_length_le (by omega)]
      rw [e]
      omega
theorem arcOk_all {ss : List ByteArray} (h : arcOk ss = true) : ss.length ≤ 8 ∧ ss.all entOk = true ∧ ∀ s ∈ ss, s.size ≤ 20000 := by
  simp only [arcOk, Bool.and_eq_true, decide_eq_true_eq] at h
  refine ⟨h.1, h.2, fun s hs => ?_⟩
  have := (List.all_eq_true.1 h.2) s hs
  simpa [entOk] using this
def WaRel (ss : List ByteArray) (n : Nat) (w : World) (B b : Nat) (iv : Value) (wr : World) : Prop := ∃ k : Nat, k ≤ n ∧ iv = .int .i64 k ∧ IsW wr B b (arcB ss k) ∧ Below B w wr
theorem c_isEntry (z : ByteArray) (w : World) (hz : z.size ≤ maxLen) : Calls Tryd.prog 72 #[.string z] w fun e w' => e = .returned (.bool (entOk z)) ∧ w = w' := by
  have HE := Lib.hid (show decide ((z.size : Int) ≤ 20000) = entOk z by unfold entOk; rw [decide_eq_decide]; omega)
  unfold maxLen at hz
  go_enter Tryd.func72, Tryd.ntmps72
  go_wp2_with fail
  go_ret
  exact ⟨ret_b HE.out, rfl⟩
set_option maxRecDepth 20000 in
set_option maxHeartbeats 2000000 in
theorem t_iArchiveOf (ss : List ByteArray) (a : Option Addr) (cap : Nat) (w : World) (h : IsStrs w a ss.length cap ss) : Calls Tryd.prog 35 #[.slice a ss.length cap] w (RetY (vArchiveOf ss).1 (vArchiveOf ss).2 w) := by
  obtain ⟨n, hn⟩ : ∃ n, ss.length = n := ⟨_, rfl⟩
  have hmax : (n : Int) ≤ 9223372036854775807 := by have h1 := h.2.1; have h2 := h.2.2.1; unfold maxLen at h2; omega
  have HN := Lib.hid hn
  rw [hn] at h ⊢
  have H := Lib.hid h
  have HALL := Lib.hid (c_isAllT 72 #[] entOk a n cap ss w h (enters_of Tryd.func72 (by kernel_rfl) (by kernel_rfl)) (fun z wr hz _ => c_isEntry z wr hz))
  unfold vArchiveOf
  by_cases h8 : n ≤ 8
  case neg =>
    have h8' : (8 : Int) < (n : Int) := by omega
    have hok : arcOk ss = false := by unfold arcOk; rw [decide_eq_false (by omega)]; rfl
    rw [hok, if_neg (by decide)]
    clear h hok hn h8
    go_enter Tryd.func35, Tryd.ntmps35
    go_wp2_with fail
    go_ret2
    exact ⟨rfl, Below.refl _ _⟩
  case pos =>
  have h8' : ¬ (8 : Int) < (n : Int) := by omega
  have hle8 : (n : Int) ≤ 8 := by omega
  have HOK := Lib.hid (show arcOk ss = ss.all entOk by unfold arcOk; rw [decide_eq_true (by omega), Bool.true_and])
  cases hs : ss.all entOk with
  | false =>
    rw [hs] at HALL
    rw [HOK.out, hs, if_neg (by decide)]
    clear h hn h8 hs
    go_enter Tryd.func35, Tryd.ntmps35
    go_wp2_with fail
    refine HALL.out.mono ?_
    rintro e w2 ⟨rfl, hb⟩
    have B2 := Lib.hid hb
    clear hb
    go_wp2_with fail
    go_ret2
    exact ⟨rfl, B2.out⟩
  | true =>
    rw [hs] at HALL
    have HSZ := Lib.hid (arcOk_all (HOK.out.trans hs)).2.2
    rw [HOK.out, hs, if_pos rfl]
    clear h hn h8 hs
    go_enter Tryd.func35, Tryd.ntmps35
    go_wp2_with fail
    refine HALL.out.mono ?_
    rintro e w2 ⟨rfl, hb⟩
    have B2 := Lib.hid hb
    have H2 := Lib.hid (H.out.kept hb)
    have I0 := Lib.hid (isW_new w2)
    have B0 := Lib.hid ((Below.refl w2.heap.size w2).alloc (Nat.le_refl _) (.cells #[.slice none 0 0, .int .i64 0, .int .i8 0] 75))
    clear hb
    go_wp2_with fail
    go_loopw [19] (fun iv wr => WaRel ss n w2 w2.heap.size w2.heap.size iv wr) (fun iv _ => n - (intOf iv).toNat)
    case atStart => exact ⟨0, Nat.zero_le _, rfl, by simpa [arcB] using I0.out, B0.out⟩
    case round =>
      obtain ⟨j, hj, rfl, hi, hb⟩ := hrel
      have HI := Lib.hid hi
      have HB := Lib.hid hb
      have hj0 : (0 : Int) ≤ (j : Int) := by omega
      have HXL := Lib.hid (show (arcB ss j).length ≤ 160032 by have := arcB_len HSZ.out j; omega)
      clear hi hb
      by_cases hlt : j < n
      · have hlt' : (j : Int) < (n : Int) := by omega
        obtain ⟨b, off, x, rfl, hbl, hx, hc, _⟩ := (H2.out.kept HB.out).one hlt
        have hsz := HSZ.out x (List.mem_of_getElem? hx)
        obtain ⟨l, rfl⟩ : ∃ l : List UInt8, x = ⟨l.toArray⟩ := ⟨x.data.toList, by simp⟩
        rw [size_mk] at hsz
        have HS := Lib.hid (show arcB ss (j + 1) = (arcB ss j ++ wb l.length 4) ++ l by rw [arcB_succ hx, List.append_assoc])
        obtain ⟨L, hL⟩ : ∃ L, arcB ss j = L := ⟨_, rfl⟩
        rw [hL] at HI HXL HS
        have HW := Lib.hid (c_integer l.length 4 (by omega) (by omega) w2.heap.size w2.heap.size L wr HI.out HB.out.size (by have := HXL.out; omega))
        have hsz' : (l.length : Int) ≤ 20000 := by omega
        have hst : (L ++ wb l.length 4).length + l.length ≤ 140737488355328 := by have := HXL.out; rw [List.length_append, wb_length]; omega
        have HST := Lib.hid hst
        clear hx hL hst
        go_wp2_with fail
        refine HW.out.mono ?_
        rintro e w3 ⟨rfl, hi, hb, _⟩
        have I3 := Lib.hid hi
        have B3 := Lib.hid (HB.out.trans hb)
        clear hi hb hc
        go_wp2_with fail
        refine (c_WriteString w2.heap.size w2.heap.size (L ++ wb l.length 4) l w3 I3.out B3.out.size HST.out).mono ?_
        rintro e w4 ⟨rfl, hi, hb, _⟩
        have I4 := Lib.hid hi
        have B4 := Lib.hid (B3.out.trans hb)
        clear hi hb
        go_wp2_with fail
        go_roundw
        case rel => exact ⟨j + 1, hlt, by go_num, by rw [HS.out]; exact I4.out, B4.out⟩
        case measure => simp [intOf]; omega
      · obtain rfl : j = n := by omega
        go_wp2_with fail
        refine (c_BufString _ _ _ _ HI.out).mono ?_
        rintro e w3 ⟨rfl, k, rfl⟩
        have B3 := Lib.hid (Below.next B2.out (below_drewN HB.out k))
        go_wp2_with fail
        go_ret2
        exact ⟨by rw [HN.out]; rfl, B3.out⟩
def SaRel (ss : List ByteArray) (n : Nat) (w : World) (s i : Value) (wr : World) : Prop := ∃ k : Nat, k ≤ n ∧ i = .int .i64 k ∧ s = .string ⟨(arcB ss k).toArray⟩ ∧ (ss.take k).all entOk = true ∧ (arcB ss k).length ≤ 20004 * k ∧ Below w.heap.size w wr
set_option maxRecDepth 20000 in
set_option maxHeartbeats 4000000 in
theorem t_sArchiveOf (ss : List ByteArray) (a : Option Addr) (cap : Nat) (w : World) (h : IsStrs w a ss.length cap ss) : Calls Tryd.prog 33 #[.slice a ss.length cap] w (RetY (vArchiveOf ss).1 (vArchiveOf ss).2 w) := by
  obtain ⟨n, hn⟩ : ∃ n, ss.length = n := ⟨_, rfl⟩
  have hmax : (n : Int) ≤ 9223372036854775807 := by have h1 := h.2.1; have h2 := h.2.2.1; unfold maxLen at h2; omega
  have HN := Lib.hid hn
  rw [hn] at h ⊢
  have H := Lib.hid h
  by_cases h8 : n ≤ 8
  case neg =>
    have h8' : (8 : Int) < (n : Int) := by omega
    have hok : arcOk ss = false := by unfold arcOk; rw [decide_eq_false (by omega)]; rfl
    unfold vArchiveOf
    rw [hok, if_neg (by decide)]
    clear h hok hn h8
    go_enter Tryd.func33, Tryd.ntmps33
    go_wp2_with fail
    go_ret2
    exact ⟨rfl, Below.refl _ _⟩
  case pos =>
  have h8' : ¬ (8 : Int) < (n : Int) := by omega
  have hle8 : (n : Int) ≤ 8 := by omega
  have HNO := Lib.hid (show ∀ x ∈ ss, entOk x = false → vArchiveOf ss = (⟨#[]⟩, false) from fun x hx hf => by
    unfold vArchiveOf
    rw [if_neg]
    intro hk
    have := List.all_eq_true.1 (arcOk_all hk).2.1 x hx
    rw [hf] at this
    exact absurd this (by decide))
  have HYES := Lib.hid (show ss.all entOk = true → vArchiveOf ss = (⟨(arcB ss n).toArray⟩, true) from fun hk => by
    unfold vArchiveOf arcOk
    rw [hk, decide_eq_true (by omega), HN.out]
    rfl)
  clear h hn
  go_enter Tryd.func33, Tryd.ntmps33
  go_wp2_with fail
  go_loopw [4, 5] (fun s i wr => SaRel ss n w s i wr) (fun _ i _ => n - (intOf i).toNat)
  case atStart => exact ⟨0, Nat.zero_le _, rfl, rfl, rfl, Nat.le_refl _, Below.refl _ _⟩
  case round =>
    obtain ⟨j, hj, rfl, rfl, hal, hln, hb⟩ := hrel
    have HA := Lib.hid hal
    have HB := Lib.hid hb
    have hj0 : (0 : Int) ≤ (j : Int) := by omega
    have hLL : (arcB ss j).length ≤ 160032 := by omega
    have HLN := Lib.hid hln
    clear hal hb hln
    by_cases hlt : j < n
    · have hlt' : (j : Int) < (n : Int) := by omega
      obtain ⟨b, off, x, rfl, hbl, hx, hc, hm⟩ := (H.out.kept HB.out).one hlt
      obtain ⟨l, rfl⟩ : ∃ l : List UInt8, x = ⟨l.toArray⟩ := ⟨x.data.toList, by simp⟩
      rw [size_mk] at hm
      unfold maxLen at hm
      have HMEM := Lib.hid (List.mem_of_getElem? hx)
      by_cases hsz : l.length ≤ 20000
      case neg =>
        have hsz' : (20000 : Int) < (l.length : Int) := by omega
        have HV := Lib.hid (HNO.out _ HMEM.out (by unfold entOk; rw [size_mk]; exact decide_eq_false hsz))
        clear hx hsz
        go_wp2_with fail
        go_ret2
        exact ⟨by rw [HV.out]; rfl, HB.out⟩
      case pos =>
        have hsz' : ¬ (20000 : Int) < (l.length : Int) := by omega
        have hszi : (l.length : Int) ≤ 20000 := by omega
        have HS := Lib.hid (arcB_succ hx)
        have HA2 := Lib.hid (show (ss.take (j + 1)).all entOk = true by
          rw [List.take_add_one, hx, List.all_append, HA.out]
          simp [entOk, size_mk, hsz])
        have HL2 := Lib.hid (show (arcB ss (j + 1)).length ≤ 20004 * (j + 1) by
          have := HLN.out
          rw [HS.out, List.length_append, List.length_append, wb_length]
          omega)
        obtain ⟨L, hL⟩ : ∃ L, arcB ss j = L := ⟨_, rfl⟩
        rw [hL] at HS hLL ⊢
        have bl : Below wr.heap.size wr wr.drew := (Below.refl _ _).drew
        have BD := Lib.hid (Below.next HB.out bl)
        have HW := Lib.hid (fun W => c_l08Word l.length 4 (by omega) (by omega) W)
        have HBK := Lib.hid hbl
        have t1 : ¬ 9223372036854775807 < 4 + l.length := by omega
        have t2 : ¬ 9223372036854775807 < L.length + (4 + l.length) := by omega
        clear hx hL bl hbl
        go_wp2_with fail
        go_region_held3 (fun w' => w'.cell? ⟨b, off + j, none⟩ = some (.string ⟨l.toArray⟩)) (go_keep)
          (first
            | (go_at_call 71
               refine (HW.out wr.drew).mono ?_
               rintro e w2 ⟨rfl, bl⟩
               have B2 := Lib.hid (Below.next BD.out bl)
               have hc2 := (bl.cell (p := ⟨b, off + j, none⟩) (by simpa using HBK.out)).trans (by simpa using hc)
               clear bl hc
               have hc := hc2
               clear hc2))
        all_goals
          go_wp2_with fail
          go_roundw
          case rel => exact ⟨j + 1, hlt, by go_num, by rw [HS.out, ← arc_append, ← arc_append], HA2.out, HL2.out, B2.out⟩
          case measure => simp [intOf]; omega
    · obtain rfl : j = n := by omega
      have HV := Lib.hid (HYES.out (by have h1 := HA.out; rwa [List.take_of_length_le (by rw [HN.out]; exact Nat.le_refl _)] at h1))
      go_wp2_with fail
      go_ret2
      exact ⟨by rw [HV.out]; rfl, HB.out⟩
end Go.Proofs.YtpobdigmjfapbaaDoor
