/-
  JournalOf: the model's. Conditions: the lines can be read.
-/
import Derived.Test.YtokminhnkmhneaaDoorJnl
namespace Go.Proofs.YtokminhnkmhneaaDoor
open Go.RowKit Go.Deep Go.WideShapes Go.ChangeShapes
set_option linter.unusedVariables false
set_option linter.unusedSimpArgs false
attribute [local go_sem] txt_size

def noNl (s : ByteArray) : Bool := !(s.data.toList.contains 10)
def okJ (ss : List ByteArray) : Bool := ss.all noNl && decide ((jst (lsOf ss)).2.length ≤ 8000)
def vJournalOf (ss : List ByteArray) : ByteArray × Bool := if okJ ss = true then (⟨(jst (lsOf ss)).2.toArray⟩, true) else (⟨#[]⟩, false)
theorem lsOf_split (ss : List ByteArray) (k : Nat) : lsOf ss = lsOf (ss.take k) ++ lsOf (ss.drop k) := by
  unfold lsOf
  rw [← List.map_append, List.take_append_drop]
theorem jst_prefix (ss : List ByteArray) (k : Nat) : (jst (lsOf (ss.take k))).2.length ≤ (jst (lsOf ss)).2.length := by
  conv => rhs; rw [lsOf_split ss k]
  exact jst_grows _ _
theorem jno_line {ss : List ByteArray} {k : Nat} {x : ByteArray} (h : ss[k]? = some x) (hx : noNl x = false) : vJournalOf ss = (⟨#[]⟩, false) := by
  have : ss.all noNl = false := by
    rw [List.all_eq_false]
    exact ⟨x, List.mem_of_getElem? h, by rw [hx]; decide⟩
  unfold vJournalOf okJ
  rw [this]
  rfl
theorem jno_long {ss : List ByteArray} (h : 8000 < (jst (lsOf ss)).2.length) : vJournalOf ss = (⟨#[]⟩, false) := by
  unfold vJournalOf okJ
  rw [decide_eq_false (by omega), Bool.and_false]
  rfl
theorem jno_yes {ss : List ByteArray} (h : ss.all noNl = true) (h2 : (jst (lsOf ss)).2.length ≤ 8000) : vJournalOf ss = (⟨(jst (lsOf ss)).2.toArray⟩, true) := by
  unfold vJournalOf okJ
  rw [h, decide_eq_true h2]
  rfl
theorem jno_all {ss : List ByteArray} {k : Nat} {x : ByteArray} (h : ss[k]? = some x) (ha : (ss.take k).all noNl = true) (hx : noNl x = true) : (ss.take (k + 1)).all noNl = true := by
  rw [List.take_add_one, h, List.all_append, ha]
  simp [hx]
theorem jmin_nextB {ss : List ByteArray} {k : Nat} {x : ByteArray} (h : ss[k]? = some x) : jmin ss (k + 1) = jmin ss k + (x.size + 3) := by
  obtain ⟨l, rfl⟩ : ∃ l : List UInt8, x = ⟨l.toArray⟩ := ⟨x.data.toList, by simp⟩
  rw [jmin_next h, txt_size]
theorem has_nl {x : ByteArray} {j : Nat} (h : j < x.size) (he : x[j] = 10) : noNl x = false := by
  unfold noNl
  have : (10 : UInt8) ∈ x.data.toList := by
    rw [← he]
    exact List.mem_of_getElem? (i := j) (by rw [List.getElem?_eq_getElem (by simpa using h)]; rfl)
  rw [List.contains_iff_mem.2 this]
  rfl
theorem nl_next {x : ByteArray} {j : Nat} (h : j < x.size) (hb : (x.data.toList.take j).contains 10 = false) (he : x[j] ≠ 10) : (x.data.toList.take (j + 1)).contains 10 = false := by
  rw [take_byte x j h, List.contains_eq_any_beq, List.any_append, ← List.contains_eq_any_beq, hb]
  simp
  exact fun h => he h.symm
def JoRel (ss : List ByteArray) (n : Nat) (w : World) (t i : Value) (wr : World) : Prop :=
  ∃ k : Nat, k ≤ n ∧ i = .int .i64 k ∧ t = .int .i64 (jmin ss k) ∧ (ss.take k).all noNl = true ∧ jmin ss k ≤ 8000 ∧ wr = w
def JlRel (x : ByteArray) (w : World) (i : Value) (wr : World) : Prop := ∃ j : Nat, j ≤ x.size ∧ i = .int .i64 j ∧ (x.data.toList.take j).contains 10 = false ∧ wr = w
set_option maxRecDepth 20000 in
set_option maxHeartbeats 2000000 in
theorem t_sJournalOf (a : Option Addr) (n cap : Nat) (ss : List ByteArray) (w : World) (h : IsStrs w a n cap ss) (hs : n + cntStr ss ≤ 1048576) : Calls Tryd.prog 35 #[.slice a n cap] w fun e w' => e = .returned (.tuple #[.string (vJournalOf ss).1, .bool (vJournalOf ss).2]) ∧ Below w.heap.size w w' := by
  have hln : ss.length = n := h.1
  have H := Lib.hid h
  have HN := Lib.hid hln
  have HSZ := Lib.hid (fun k (x : ByteArray) (hx : ss[k]? = some x) => show x.size ≤ 1048576 by
    have h1 := cntStr_take hx
    have h2 := cntStr_le ss (k + 1)
    omega)
  have hn : n ≤ 1048576 := by omega
  have HJR := Lib.hid (fun (hj : jmin ss n ≤ 8000) => c_l11Journal a n cap ss w h hj)
  clear h hln hs
  go_enter Tryd.func35, Tryd.ntmps35
  go_wp2_with fail
  go_loopw [4, 5] (fun t i wr => JoRel ss n w t i wr) (fun _ i _ => n - (intOf i).toNat)
  case atStart => exact ⟨0, Nat.zero_le _, rfl, by simp [jmin, cntStr], rfl, by simp [jmin, cntStr], rfl⟩
  case round =>
    obtain ⟨k, hk, rfl, rfl, hal, hj, rfl⟩ := hrel
    have HA := Lib.hid hal
    have hk0 : (0 : Int) ≤ (k : Int) := by omega
    clear hal
    by_cases hlt : k < n
    · have hlt' : (k : Int) < (n : Int) := by omega
      obtain ⟨b, off, x, rfl, hbl, hx, hc, hmx⟩ := H.out.one hlt
      have hmx := HSZ.out k x hx
      have HX := Lib.hid hx
      have HJN := Lib.hid (jmin_nextB hx)
      obtain ⟨m, hm⟩ : ∃ m, jmin ss k = m := ⟨_, rfl⟩
      rw [hm] at hj HJN ⊢
      have hmi : (m : Int) ≤ 8000 := by omega
      have hm0 : (0 : Int) ≤ (m : Int) := by omega
      have hzi : (x.size : Int) ≤ 1048576 := by omega
      clear hx hm
      by_cases h8 : m + (x.size + 3) ≤ 8000
      case neg =>
        have h8' : (8000 : Int) < (m : Int) + ((x.size : Int) + 3) := by omega
        have HV := Lib.hid (jno_long (ss := ss) (by
          have h1 := (jst_between ss (k + 1) (by rw [HN.out]; omega)).1
          have h2 := jst_prefix ss (k + 1)
          have h3 := HJN.out
          omega))
        clear h8
        go_wp2_with fail
        go_ret2
        exact ⟨by rw [HV.out]; rfl, Below.refl _ _⟩
      case pos =>
        have h8' : ¬ (8000 : Int) < (m : Int) + ((x.size : Int) + 3) := by omega
        have H8 := Lib.hid h8
        clear h8
        go_wp2_with fail
        go_loopw [6] (fun i wr' => JlRel x wr i wr') (fun i _ => x.size - (intOf i).toNat)
        case atStart => exact ⟨0, Nat.zero_le _, rfl, rfl, rfl⟩
        case round =>
          obtain ⟨j, hj', rfl, hnl, rfl⟩ := hrel
          have HNL := Lib.hid hnl
          have hj0 : (0 : Int) ≤ (j : Int) := by omega
          clear hnl
          by_cases hlt2 : j < x.size
          · have hlt2' : (j : Int) < (x.size : Int) := by omega
            by_cases he : x[j] = 10
            · have HV := Lib.hid (jno_line HX.out (has_nl hlt2 he))
              have heb : ((x[j].toNat : Int) == 10) = true := by rw [he]; rfl
              clear he
              go_wp2_with fail
              go_ret2
              exact ⟨by rw [HV.out]; rfl, Below.refl _ _⟩
            · have HS := Lib.hid (nl_next hlt2 HNL.out he)
              have heb : ((x[j].toNat : Int) == 10) = false := by
                rw [beq_eq_false_iff_ne]
                intro h
                exact he (UInt8.toNat_inj.1 (by have : x[j].toNat = 10 := by omega
                                                rw [this]; rfl))
              clear he
              go_wp2_with fail
              go_roundw
              case rel => exact ⟨j + 1, hlt2, by go_num, HS.out, rfl⟩
              case measure => simp [intOf]; omega
          · obtain rfl : j = x.size := by omega
            have hno : noNl x = true := by
              unfold noNl
              have h1 := HNL.out
              rw [List.take_of_length_le (by simp)] at h1
              rw [h1]
              rfl
            have HS := Lib.hid (jno_all HX.out HA.out hno)
            clear hno
            go_wp2_with fail
            go_roundw
            case rel => exact ⟨k + 1, hlt, by go_num, by rw [HJN.out]; go_num, HS.out, by rw [HJN.out]; exact H8.out, rfl⟩
            case measure => simp [intOf]; omega
    · obtain rfl : k = n := by omega
      have hall := HA.out
      rw [List.take_of_length_le (by rw [HN.out]; exact Nat.le_refl _)] at hall
      have HJ := Lib.hid (HJR.out hj)
      have HAL := Lib.hid hall
      obtain ⟨m, hm⟩ : ∃ m, jmin ss k = m := ⟨_, rfl⟩
      rw [hm]
      clear hall hj hm
      go_wp2_with fail
      refine HJ.out.mono ?_
      rintro e w2 ⟨rfl, hb⟩
      have HB := Lib.hid hb
      clear hb
      by_cases h8 : (jst (lsOf ss)).2.length ≤ 8000
      · have HV := Lib.hid (jno_yes HAL.out h8)
        obtain ⟨L, hL⟩ : ∃ L, (jst (lsOf ss)).2 = L := ⟨_, rfl⟩
        rw [hL] at h8 HV ⊢
        have h8' : ¬ (8000 : Int) < (L.length : Int) := by omega
        clear hL h8
        go_wp2_with fail
        go_ret2
        exact ⟨by rw [HV.out]; rfl, HB.out⟩
      · have HV := Lib.hid (jno_long (ss := ss) (by omega))
        obtain ⟨L, hL⟩ : ∃ L, (jst (lsOf ss)).2 = L := ⟨_, rfl⟩
        rw [hL] at h8 ⊢
        have h8' : (8000 : Int) < (L.length : Int) := by omega
        clear hL h8
        go_wp2_with fail
        go_ret2
        exact ⟨by rw [HV.out]; rfl, HB.out⟩
end Go.Proofs.YtokminhnkmhneaaDoor
