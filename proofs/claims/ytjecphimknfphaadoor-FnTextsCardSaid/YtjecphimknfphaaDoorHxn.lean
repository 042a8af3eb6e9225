/-
  NumbersText: the model and the program. Conditions: the numbers can be read, the tables are as their initialisers lay them.
-/
import Derived.Test.YtjecphimknfphaaDoorHxi
import Derived.Test.YtjecphimknfphaaDoorTls
namespace Go.Proofs.YtjecphimknfphaaDoor
open Go.RowKit Go.Deep Go.WideShapes Go.ChangeShapes
set_option linter.unusedVariables false
set_option linter.unusedSimpArgs false

theorem zeros_fin : ∀ k : Fin 9, (⟨#[48, 48, 48, 48, 48, 48, 48, 48]⟩ : ByteArray).extract k.val 8 = ⟨(List.replicate (8 - k.val) 48).toArray⟩ := by decide +kernel
theorem zeros_at (k : Nat) (h : k ≤ 8) : (⟨#[48, 48, 48, 48, 48, 48, 48, 48]⟩ : ByteArray).extract k 8 = ⟨(List.replicate (8 - k) 48).toArray⟩ := zeros_fin ⟨k, by omega⟩
set_option maxRecDepth 20000 in
set_option maxHeartbeats 2000000 in
theorem c_formatHex1 (U : Nat) (hU : U < 4294967296) (w : World) (h : DbOk w) : Calls Tryd.prog 42 #[.int .i64 U, .int .i64 16] w fun e w' => e = .returned (.string ⟨(hx U).toArray⟩) ∧ Below w.heap.size w w' := by
  have H := Lib.hid (c_formatBits U hU w h)
  have hu1 : (U : Int) ≤ 4294967295 := by omega
  have hu0 : (0 : Int) ≤ (U : Int) := by omega
  clear h hU
  go_enter Tryd.func42, Tryd.ntmps42
  go_wp2_with fail
  refine H.out.mono ?_
  rintro e w2 ⟨rfl, hb⟩
  have HB := Lib.hid hb
  clear hb
  go_wp2_with fail
  go_ret
  exact ⟨rfl, HB.out⟩
theorem c_formatHex (U : Nat) (hU : U < 4294967296) (w : World) (h : DbOk w) : Calls Tryd.prog 31 #[.int .i64 U, .int .i64 16] w fun e w' => e = .returned (.string ⟨(hx U).toArray⟩) ∧ Below w.heap.size w w' := by
  have H := Lib.hid (c_formatHex1 U hU w h)
  clear h hU
  go_enter Tryd.func31, Tryd.ntmps31
  go_wp2_with fail
  refine H.out.mono ?_
  rintro e w2 ⟨rfl, hb⟩
  have HB := Lib.hid hb
  clear hb
  go_wp2_with fail
  go_ret
  exact ⟨rfl, HB.out⟩
set_option maxRecDepth 20000 in
set_option maxHeartbeats 2000000 in
theorem c_numberText (z : Nat) (hz : z < 4294967296) (w : World) (h : DbOk w) : Calls Tryd.prog 16 #[.float .f32 z] w fun e w' => e = .returned (.string ⟨(numT z).toArray⟩) ∧ Below w.heap.size w w' := by
  have hcl := canon_lt32 hz
  have HBI := Lib.hid (c_iBitsOf z hz w)
  unfold numT
  obtain ⟨n, hn⟩ : ∃ n, canon .f32 z = n := ⟨_, rfl⟩
  rw [hn] at hcl HBI ⊢
  have H := Lib.hid (fun W hW => c_formatHex n hcl W hW)
  have HD := Lib.hid h
  have hl := hx_len 8 n (by have e : (16 : Nat) ^ 8 = 4294967296 := by decide
                            omega) (by decide)
  have HK := Lib.hid (hk_hx 8 n (by have e : (16 : Nat) ^ 8 = 4294967296 := by decide
                                    omega) (by decide))
  obtain ⟨D, hD⟩ : ∃ D, hx n = D := ⟨_, rfl⟩
  rw [hD] at H hl HK
  have hl8 : (D.length : Int) ≤ 8 := by omega
  have hl0 : (0 : Int) ≤ (D.length : Int) := by omega
  have t1 : ¬ 9223372036854775807 < 8 - D.length + D.length := by omega
  have HZ := Lib.hid (show (⟨#[48, 48, 48, 48, 48, 48, 48, 48]⟩ : ByteArray).extract D.length 8 ++ ⟨D.toArray⟩ = ⟨(hk 8 n).toArray⟩ by rw [zeros_at D.length hl.2, txt_append, HK.out])
  clear hz hn hcl h hD
  go_enter Tryd.func16, Tryd.ntmps16
  go_wp2_with fail
  refine HBI.out.mono ?_
  rintro e w2 ⟨rfl, rfl⟩
  go_wp2_with fail
  refine (H.out w HD.out).mono ?_
  rintro e w2 ⟨rfl, hb⟩
  have HB := Lib.hid hb
  clear hb
  go_wp2_with fail
  go_ret
  exact ⟨congrArg (fun s => Ending.returned (.string s)) HZ.out, HB.out⟩
def vNumbersText (zs : List Nat) : ByteArray × Bool := if zs.length ≤ 256 then (⟨(txt (zs.map numT)).toArray⟩, true) else (⟨#[]⟩, false)
theorem numT_short (z : Nat) : (numT z).length ≤ 1000 := by unfold numT; rw [hk_len]; omega
theorem t_iNumbersText (a : Option Addr) (n cap : Nat) (zs : List Nat) (w : World) (h : IsFloats .f32 w a n cap zs) (hn : n ≤ 1048576) (hd : DbOk w) : Calls Tryd.prog 7 #[.slice a n cap] w fun e w' => e = .returned (.tuple #[.string (vNumbersText zs).1, .bool (vNumbersText zs).2]) ∧ Below w.heap.size w w' := by
  have hln : zs.length = n := h.2.2.1
  have HT := Lib.hid (c_joinF 16 numT a n cap zs w h hn (fun z hz => numT_short z) (enters_of Tryd.func16 (by kernel_rfl) (by kernel_rfl)) (fun z wr hz hb => c_numberText z (h.2.2.2.1 z hz) wr (hd.kept hb)))
  unfold vNumbersText
  rw [hln]
  by_cases h2 : n ≤ 256
  case neg =>
    rw [if_neg h2]
    have h2' : (256 : Int) < (n : Int) := by omega
    clear h hln h2 hd
    go_enter Tryd.func7, Tryd.ntmps7
    go_wp2_with fail
    go_ret2
    exact ⟨rfl, Below.refl _ _⟩
  case pos =>
    rw [if_pos h2]
    have h2' : ¬ (256 : Int) < (n : Int) := by omega
    clear h hln h2 hd
    go_enter Tryd.func7, Tryd.ntmps7
    go_wp2_with fail
    refine HT.out.mono ?_
    rintro e w3 ⟨rfl, hb⟩
    have HB := Lib.hid hb
    clear hb
    go_wp2_with fail
    go_ret2
    exact ⟨rfl, HB.out⟩
end Go.Proofs.YtjecphimknfphaaDoor
