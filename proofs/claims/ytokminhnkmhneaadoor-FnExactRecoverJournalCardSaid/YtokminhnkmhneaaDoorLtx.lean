/-
  ListText: the model and the program. Conditions: the integers can be read, the table of powers of ten is as its initialiser lays it.
-/
import Derived.Test.YtokminhnkmhneaaDoorTls
import Derived.Test.YtokminhnkmhneaaDoorTlm
import Derived.Test.YtokminhnkmhneaaDoorDci
import Derived.Test.YtokminhnkmhneaaDoorVal
namespace Go.Proofs.YtokminhnkmhneaaDoor
open Go.RowKit Go.Deep Go.WideShapes Go.ChangeShapes
set_option linter.unusedVariables false
set_option linter.unusedSimpArgs false

def listable (n : Int) : Bool := decide (-1000000000000000 ≤ n) && decide (n ≤ 1000000000000000)
theorem listable_of {n : Int} (h : listable n = true) : -1000000000000000 ≤ n ∧ n ≤ 1000000000000000 := by simpa [listable] using h
theorem itoa_short (n : Int) (h0 : -9223372036854775808 ≤ n) (h1 : n ≤ 9223372036854775807) : (Lib.itoa n).length ≤ 1000 := by have := Lib.itoa_length_le n h0 h1; omega
def okList (zs : List Int) : Bool := zs.all listable && decide (zs.length ≤ 64)
def vListText (zs : List Int) : ByteArray × Bool := if okList zs = true then (⟨(txt (zs.map Lib.itoa)).toArray⟩, true) else (⟨#[]⟩, false)
theorem all_not {zs : List Int} {k : Nat} {x : Int} (h : zs[k]? = some x) (hx : listable x = false) : zs.all listable = false := by
  rw [List.all_eq_false]
  exact ⟨x, List.mem_of_getElem? h, by rw [hx]; decide⟩
theorem all_take_succ {zs : List Int} {k : Nat} {x : Int} (h : zs[k]? = some x) (ha : (zs.take k).all listable = true) (hx : listable x = true) : (zs.take (k + 1)).all listable = true := by
  rw [List.take_add_one, h, List.all_append, ha]
  simp [hx]
def LiRel (zs : List Int) (n : Nat) (w : World) (i : Value) (wr : World) : Prop := ∃ k : Nat, k ≤ n ∧ i = .int .i64 k ∧ (zs.take k).all listable = true ∧ wr = w
set_option maxRecDepth 20000 in
set_option maxHeartbeats 1000000 in
theorem c_l01List (a : Option Addr) (n cap : Nat) (zs : List Int) (w : World) (h : IsRow .i64 w a n cap zs) (hn : n ≤ 1048576) : Calls Tryd.prog 65 #[.slice a n cap] w fun e w' => e = .returned (.bool (okList zs)) ∧ w = w' := by
  have hln : zs.length = n := h.2.2.1
  have HN := Lib.hid hln
  have HR := Lib.hid h
  clear h hln
  go_enter Tryd.func65, Tryd.ntmps65
  go_wp2_with fail
  go_loopw [3] (fun i wr => LiRel zs n w i wr) (fun i _ => n - (intOf i).toNat)
  case atStart => exact ⟨0, Nat.zero_le _, rfl, rfl, rfl⟩
  case round =>
    obtain ⟨k, hk, rfl, hal, rfl⟩ := hrel
    have HA := Lib.hid hal
    have hk0 : (0 : Int) ≤ (k : Int) := by omega
    clear hal
    by_cases hlt : k < n
    · have hlt' : (k : Int) < (n : Int) := by omega
      obtain ⟨b, off, x, rfl, hbk, hx, c1, l1⟩ := int_atW HR.out hlt
      have HX := Lib.hid hx
      have HIN := Lib.hid (fun W => c_l00In x (-1000000000000000) 1000000000000000 (listable x) rfl W)
      clear hx l1 hbk
      go_wp2_with fail
      refine (HIN.out wr).mono ?_
      rintro e w2 ⟨rfl, rfl⟩
      cases hL : listable x with
      | false =>
        have HF := Lib.hid (all_not HX.out hL)
        clear hL
        go_wp2_with fail
        go_ret
        exact ⟨by unfold okList; rw [HF.out]; rfl, rfl⟩
      | true =>
        have HS := Lib.hid (all_take_succ HX.out HA.out hL)
        clear hL
        go_wp2_with fail
        go_roundw
        case rel => exact ⟨k + 1, hlt, by go_num, HS.out, rfl⟩
        case measure => simp [intOf]; omega
    · obtain rfl : k = n := by omega
      have hall := HA.out
      rw [List.take_of_length_le (by rw [HN.out]; exact Nat.le_refl _)] at hall
      have HO := Lib.hid (show decide ((k : Int) ≤ 64) = okList zs by
        unfold okList
        rw [hall, Bool.true_and, HN.out, decide_eq_decide]
        omega)
      clear hall
      go_wp2_with fail
      go_ret
      exact ⟨ret_b HO.out, rfl⟩
theorem t_sListText (a : Option Addr) (n cap : Nat) (zs : List Int) (w : World) (h : IsRow .i64 w a n cap zs) (hn : n ≤ 1048576) : Calls Tryd.prog 26 #[.slice a n cap] w fun e w' => e = .returned (.tuple #[.string (vListText zs).1, .bool (vListText zs).2]) ∧ Below w.heap.size w w' := by
  have HB : ∀ z ∈ zs, -9223372036854775808 ≤ z ∧ z ≤ 9223372036854775807 := fun z hz => i64_bounds (h.2.2.2.1 z hz)
  have HL := Lib.hid (c_l01List a n cap zs w h hn)
  have HT := Lib.hid (c_sTextI Lib.itoa a n cap zs w h hn (fun z hz => itoa_short z (HB z hz).1 (HB z hz).2) (fun z wr hz => c_l01Dec z (HB z hz).1 (HB z hz).2 wr))
  unfold vListText
  clear HB h
  cases ho : okList zs with
  | false =>
    rw [ho] at HL
    rw [if_neg (by decide)]
    clear ho
    go_enter Tryd.func26, Tryd.ntmps26
    go_wp2_with fail
    refine HL.out.mono ?_
    rintro e w2 ⟨rfl, rfl⟩
    go_wp2_with fail
    go_ret2
    exact ⟨rfl, Below.refl _ _⟩
  | true =>
    rw [ho] at HL
    rw [if_pos rfl]
    clear ho
    go_enter Tryd.func26, Tryd.ntmps26
    go_wp2_with fail
    refine HL.out.mono ?_
    rintro e w2 ⟨rfl, rfl⟩
    go_wp2_with fail
    refine HT.out.mono ?_
    rintro e w3 ⟨rfl, hb⟩
    have HB := Lib.hid hb
    clear hb
    go_wp2_with fail
    go_ret2
    exact ⟨rfl, HB.out⟩
def LiRelI (zs : List Int) (n : Nat) (w : World) (p i : Value) (wr : World) : Prop := ∃ k : Nat, k ≤ n ∧ i = .int .i64 k ∧ (zs.take k).all listable = true ∧ wr = w
set_option maxHeartbeats 1000000 in
theorem c_isListable (n : Int) (w : World) : Calls Tryd.prog 56 #[.int .i64 n] w fun e w' => e = .returned (.bool (listable n)) ∧ w = w' := by
  unfold listable
  by_cases h : -1000000000000000 ≤ n
  · rw [decide_eq_true h, Bool.true_and]
    have h' : decide ((-1000000000000000 : Int) ≤ n) = true := decide_eq_true h
    go_enter Tryd.func56, Tryd.ntmps56
    go_wp2_with fail
    go_ret
    exact ⟨rfl, rfl⟩
  · rw [decide_eq_false h, Bool.false_and]
    have h' : decide ((-1000000000000000 : Int) ≤ n) = false := decide_eq_false h
    go_enter Tryd.func56, Tryd.ntmps56
    go_wp2_with fail
    go_ret
    exact ⟨rfl, rfl⟩
set_option maxRecDepth 20000 in
set_option maxHeartbeats 1000000 in
theorem t_iListText (a : Option Addr) (n cap : Nat) (zs : List Int) (w : World) (h : IsRow .i64 w a n cap zs) (hn : n ≤ 1048576) (ht : TabOk w) : Calls Tryd.prog 28 #[.slice a n cap] w fun e w' => e = .returned (.tuple #[.string (vListText zs).1, .bool (vListText zs).2]) ∧ Below w.heap.size w w' := by
  have hln : zs.length = n := h.2.2.1
  have HBD : ∀ z ∈ zs, -9223372036854775808 ≤ z ∧ z ≤ 9223372036854775807 := fun z hz => i64_bounds (h.2.2.2.1 z hz)
  have HT := Lib.hid (c_joinI 15 Lib.itoa a n cap zs w h hn (fun z hz => itoa_short z (HBD z hz).1 (HBD z hz).2) (enters_of Tryd.func15 (by kernel_rfl) (by kernel_rfl)) (fun z wr hz hb => c_iDecimal z (HBD z hz).1 (HBD z hz).2 wr (ht.kept hb)))
  have HN := Lib.hid hln
  have HR := Lib.hid h
  clear h hln ht HBD
  by_cases h64 : n ≤ 64
  case neg =>
    have hgt : (64 : Int) < (n : Int) := by omega
    have HV := Lib.hid (show vListText zs = (⟨#[]⟩, false) by unfold vListText okList; rw [HN.out, decide_eq_false h64, Bool.and_false]; rfl)
    clear h64
    go_enter Tryd.func28, Tryd.ntmps28
    go_wp2_with fail
    go_ret2
    exact ⟨by rw [HV.out]; rfl, Below.refl _ _⟩
  case pos =>
    have hle : ¬ (64 : Int) < (n : Int) := by omega
    have HNO := Lib.hid (fun (hf : zs.all listable = false) => show vListText zs = (⟨#[]⟩, false) by unfold vListText okList; rw [hf]; rfl)
    have HYES := Lib.hid (fun (hf : zs.all listable = true) => show vListText zs = (⟨(txt (zs.map Lib.itoa)).toArray⟩, true) by unfold vListText okList; rw [hf, HN.out, decide_eq_true h64]; rfl)
    clear h64
    go_enter Tryd.func28, Tryd.ntmps28
    go_wp2_with fail
    go_loopw [5, 11] (fun p i wr => LiRelI zs n w p i wr) (fun _ i _ => n - (intOf i).toNat)
    case atStart => exact ⟨0, Nat.zero_le _, rfl, rfl, rfl⟩
    case round =>
      obtain ⟨k, hk, rfl, hal, rfl⟩ := hrel
      have HA := Lib.hid hal
      have hk0 : (0 : Int) ≤ (k : Int) := by omega
      clear hal
      by_cases hlt : k < n
      · have hlt' : (k : Int) < (n : Int) := by omega
        obtain ⟨b, off, x, rfl, hbk, hx, c1, l1⟩ := int_atW HR.out hlt
        have HX := Lib.hid hx
        have HIN := Lib.hid (fun W => c_isListable x W)
        clear hx l1 hbk
        go_wp2_with fail
        refine (HIN.out wr).mono ?_
        rintro e w2 ⟨rfl, rfl⟩
        cases hL : listable x with
        | false =>
          have HF := Lib.hid (HNO.out (all_not HX.out hL))
          clear hL
          go_wp2_with fail
          go_ret2
          exact ⟨by rw [HF.out]; rfl, Below.refl _ _⟩
        | true =>
          have HS := Lib.hid (all_take_succ HX.out HA.out hL)
          clear hL
          go_wp2_with fail
          go_roundw
          case rel => exact ⟨k + 1, hlt, by go_num, HS.out, rfl⟩
          case measure => simp [intOf]; omega
      · obtain rfl : k = n := by omega
        have hall := HA.out
        rw [List.take_of_length_le (by rw [HN.out]; exact Nat.le_refl _)] at hall
        have HV := Lib.hid (HYES.out hall)
        clear hall
        go_wp2_with fail
        refine HT.out.mono ?_
        rintro e w3 ⟨rfl, hb⟩
        have HB := Lib.hid hb
        clear hb
        go_wp2_with fail
        go_ret2
        exact ⟨by rw [HV.out]; rfl, HB.out⟩
end Go.Proofs.YtokminhnkmhneaaDoor
