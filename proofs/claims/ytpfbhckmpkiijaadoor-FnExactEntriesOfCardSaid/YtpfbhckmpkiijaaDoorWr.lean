/-
  The writer: a buffer that the call makes; integers and numbers are written. Conditions: the integers are not negative.
-/
import Derived.Test.YtpfbhckmpkiijaaDoorWc
import Derived.Test.YtpfbhckmpkiijaaDoorBuf
namespace Go.Proofs.YtpfbhckmpkiijaaDoor
open Go.RowKit Go.Deep Go.WideShapes Go.ChangeShapes
set_option linter.unusedVariables false

def IsW (w : World) (B b : Nat) (l : List UInt8) : Prop := LibA.IsBuffer 57 (fun _ => none) 5 B b 0 (Lib.byteCells l) w
def Others (b : Nat) (w w' : World) : Prop := Lib.OthersKept 5 (some b) w w'
theorem Others.refl (b : Nat) (w : World) : Others b w w := Lib.OthersKept.refl _ _ _
theorem Others.trans {b : Nat} {w w1 w2 : World} (h : Others b w w1) (k : Others b w1 w2) : Others b w w2 := Lib.OthersKept.trans h k
theorem Others.of_below {b : Nat} {w w' : World} (h : Below w.heap.size w w') : Others b w w' := fun k o hk _ _ => (h.block k (Array.getElem?_eq_some_iff.1 hk).1).trans hk
theorem IsW.old {w w' : World} {B b : Nat} {l : List UInt8} (h : IsW w B b l) (hb : Below w.heap.size w w') : IsW w' B b l := LibA.IsBuffer.old h hb
theorem IsW.lt {w : World} {B b : Nat} {l : List UInt8} (h : IsW w B b l) : b < w.heap.size := LibA.IsBuffer.lt h
theorem IsW.base {w : World} {B b : Nat} {l : List UInt8} (h : IsW w B b l) : B ≤ b := h.1
theorem isW_new (w : World) : IsW (w.alloc (.cells #[.slice none 0 0, .int .i64 0, .int .i8 0] 57)) w.heap.size w.heap.size [] := LibA.of_whole (Lib.fresh_isBuffer 57 5 w)
/-- a box that is neither the buffer nor a row of bytes -/
theorem Blk.others {w w' : World} {g b : Nat} {t : TypeId} {cs : Array Value} (h : Blk w g t cs) (ho : Others b w w') (hg : g ≠ b) (ht : t ≠ 5) : Blk w' g t cs :=
  ho g _ h (fun e => hg (Option.some.inj e)) (fun c fz e => ht (by injection e))
theorem cells_snoc (l : List UInt8) (c : UInt8) : Lib.byteCells (l ++ [c]) = Lib.byteCells l ++ [.int .u8 (c.toNat : Int)] := by simp [Lib.byteCells]
theorem c_WriteByte (B b : Nat) (l : List UInt8) (c : UInt8) (v : Int) (w : World) (h : IsW w B b l) (hB : B ≤ w.heap.size) (hl : l.length + 1 ≤ 140737488355328) (hv : v = (c.toNat : Int)) :
    Calls Tryd.prog 60 #[.pointer (some ⟨b, 0, none⟩), .int .u8 v] w fun e w' => e = .returned .nilIface ∧ IsW w' B b (l ++ [c]) ∧ Below B w w' ∧ Others b w w' := by
  subst hv
  have h1 : Calls Tryd.prog 60 #[.pointer (some ⟨b, 0, none⟩), .int .u8 (c.toNat : Int)] w _ := Any.Buffer_WriteByte_at lays179 57 (fun _ => none) B b 0 (Lib.byteCells l) (c.toNat : Int) w h hB (Lib.byteCells_one l) (by rw [Lib.byteCells_length]; exact hl)
  refine h1.mono ?_
  rintro e w' ⟨he, hi, hb, ho⟩
  refine ⟨he, ?_, hb, ho⟩
  unfold IsW
  rw [cells_snoc]
  exact hi
theorem c_BufString (B b : Nat) (l : List UInt8) (w : World) (h : IsW w B b l) :
    Calls Tryd.prog 30 #[.pointer (some ⟨b, 0, none⟩)] w fun e w' => e = .returned (.string ⟨l.toArray⟩) ∧ ∃ n, w' = w.drewN n := Any.Buffer_String_at lays182 57 (fun _ => none) B b 0 l w h
def IntRel (n size : Nat) (w : World) (B b : Nat) (l : List UInt8) (nv iv : Value) (wr : World) : Prop :=
  ∃ k : Nat, k ≤ size ∧ iv = .int .i64 k ∧ nv = .int .i64 ((n / 256 ^ k : Nat) : Int) ∧ IsW wr B b (l ++ wb n k) ∧ Below B w wr ∧ Others b w wr
set_option maxRecDepth 20000 in
set_option maxHeartbeats 2000000 in
theorem c_integer (n size : Nat) (hn : n < 9223372036854775808) (hs : size ≤ 8) (B b : Nat) (l : List UInt8) (w : World) (h : IsW w B b l) (hB : B ≤ w.heap.size) (hl : l.length ≤ 1000000) :
    Calls Tryd.prog 49 #[.pointer (some ⟨b, 0, none⟩), .int .i64 n, .int .i64 size] w fun e w' => e = .returned (.tuple #[]) ∧ IsW w' B b (l ++ wb n size) ∧ Below B w w' ∧ Others b w w' := by
  have H := Lib.hid h
  have HL := Lib.hid hl
  have HB0 := Lib.hid hB
  have hs8 : (size : Int) ≤ 8 := by omega
  clear h hB hl
  go_enter Tryd.func49, Tryd.ntmps49
  go_wp2_with fail
  go_loopw [1, 7] (fun nv iv wr => IntRel n size w B b l nv iv wr) (fun _ i _ => size - (intOf i).toNat)
  case atStart => exact ⟨0, Nat.zero_le _, rfl, by rw [Nat.pow_zero, Nat.div_one], by simpa [wb] using H.out, Below.refl _ _, Others.refl _ _⟩
  case round =>
    obtain ⟨k, hk, rfl, rfl, hi, hb, ho⟩ := hrel
    have HI := Lib.hid hi
    have HB := Lib.hid hb
    have HO := Lib.hid ho
    have hk0 : (0 : Int) ≤ (k : Int) := by omega
    clear hi hb ho
    by_cases hlt : k < size
    · have hlt' : (k : Int) < (size : Int) := by omega
      have HN := Lib.hid (show l ++ wb n (k + 1) = (l ++ wb n k) ++ [wbAt n k] by rw [wb_succ, List.append_assoc])
      have HV := Lib.hid (wbAt_toNat n k)
      have HD := Lib.hid (show n / 256 ^ (k + 1) = n / 256 ^ k / 256 by rw [Nat.div_div_eq_div_mul, Nat.pow_succ])
      have hle : n / 256 ^ k ≤ n := Nat.div_le_self _ _
      have HLL := Lib.hid (show (l ++ wb n k).length + 1 ≤ 140737488355328 by rw [List.length_append, wb_length]; have := HL.out; omega)
      obtain ⟨m, hm⟩ : ∃ m, n / 256 ^ k = m := ⟨_, rfl⟩
      rw [hm] at HV HD hle ⊢
      obtain ⟨l1, hl1⟩ : ∃ x, l ++ wb n k = x := ⟨_, rfl⟩
      rw [hl1] at HI HN HLL
      have HW := Lib.hid (fun (v : Int) (hv : v = ((wbAt n k).toNat : Int)) => c_WriteByte B b l1 (wbAt n k) v wr HI.out (Nat.le_trans HB0.out HB.out.size) HLL.out hv)
      have hm0 : (0 : Int) ≤ (m : Int) := by omega
      have hm63 : (m : Int) ≤ 9223372036854775807 := by omega
      clear hm hl1 hle
      go_wp2_with fail
      refine (HW.out _ (by rw [HV.out]; omega)).mono ?_
      rintro e w2 ⟨rfl, hi, hb, ho⟩
      have HI2 := Lib.hid hi
      have HB2 := Lib.hid (HB.out.trans hb)
      have HO2 := Lib.hid (HO.out.trans ho)
      clear hi hb ho
      go_wp2_with fail
      go_roundw
      case rel => exact ⟨k + 1, hlt, by go_num, by rw [HD.out]; go_num, by rw [HN.out]; exact HI2.out, HB2.out, HO2.out⟩
      case measure => simp [intOf]; omega
    · obtain rfl : k = size := by omega
      go_wp2_with fail
      go_end0
      exact ⟨rfl, HI.out, HB.out, HO.out⟩
def nbW (zs : List Nat) : List UInt8 := nb zs
def NumRel (zs : List Nat) (n : Nat) (w : World) (B b : Nat) (l : List UInt8) (iv : Value) (wr : World) : Prop :=
  ∃ k : Nat, k ≤ n ∧ iv = .int .i64 k ∧ IsW wr B b (l ++ nb (zs.take k)) ∧ Below B w wr ∧ Others b w wr
set_option maxRecDepth 20000 in
set_option maxHeartbeats 2000000 in
theorem c_wNumbers (a : Option Addr) (cap : Nat) (zs : List Nat) (B b : Nat) (l : List UInt8) (w : World) (hf : ∀ W, Below B w W → Others b w W → IsFloats .f32 W a zs.length cap zs) (h4 : zs.length ≤ 4096) (h : IsW w B b l) (hB : B ≤ w.heap.size) (hl : l.length ≤ 500000) :
    Calls Tryd.prog 29 #[.pointer (some ⟨b, 0, none⟩), .slice a zs.length cap] w fun e w' => e = .returned (.tuple #[]) ∧ IsW w' B b (l ++ nb zs) ∧ Below B w w' ∧ Others b w w' := by
  have H := Lib.hid h
  have HL := Lib.hid hl
  have HB0 := Lib.hid hB
  have HX := Lib.hid hf
  obtain ⟨n, hn⟩ : ∃ n, zs.length = n := ⟨_, rfl⟩
  have HN := Lib.hid hn
  rw [hn] at HX h4 ⊢
  have hn4 : (n : Int) ≤ 4096 := by omega
  clear h hB hl hf hn
  go_enter Tryd.func29, Tryd.ntmps29
  go_wp2_with fail
  go_loopw [8] (fun iv wr => NumRel zs n w B b l iv wr) (fun i _ => n - (intOf i).toNat)
  case atStart => exact ⟨0, Nat.zero_le _, rfl, by simpa [nb] using H.out, Below.refl _ _, Others.refl _ _⟩
  case round =>
    obtain ⟨k, hk, rfl, hi, hb, ho⟩ := hrel
    have HI := Lib.hid hi
    have HB := Lib.hid hb
    have HO := Lib.hid ho
    have hk0 : (0 : Int) ≤ (k : Int) := by omega
    clear hi hb ho
    by_cases hlt : k < n
    · have hlt' : (k : Int) < (n : Int) := by omega
      obtain ⟨b1, o1, x, rfl, hb1, hx, c1, l1⟩ := flt_atW (HX.out _ HB.out HO.out) hlt
      have HS := Lib.hid (show l ++ nb (zs.take (k + 1)) = (l ++ nb (zs.take k)) ++ wb (canon .f32 x) 4 by rw [nb_snoc hx, List.append_assoc])
      have HL1 := Lib.hid l1
      have hle : (l ++ nb (zs.take k)).length ≤ 1000000 := by rw [List.length_append, nb_length, List.length_take]; have := HL.out; omega
      have hcl := canon_lt32 l1
      obtain ⟨y, hy⟩ : ∃ y, canon .f32 x = y := ⟨_, rfl⟩
      have HY := Lib.hid hy
      rw [hy] at HS hcl
      obtain ⟨l2, hl2⟩ : ∃ z, l ++ nb (zs.take k) = z := ⟨_, rfl⟩
      rw [hl2] at HI HS hle
      have HW := Lib.hid (c_integer y 4 (by omega) (by omega) B b l2 wr HI.out (Nat.le_trans HB0.out HB.out.size) hle)
      clear hx l1 hy hl2 hle hcl
      go_wp2_with fail
      refine (c_iBitsOf x HL1.out _).mono ?_
      rintro e wz ⟨rfl, rfl⟩
      rw [HY.out]
      clear c1
      go_wp2_with fail
      refine HW.out.mono ?_
      rintro e w2 ⟨rfl, hi, hb, ho⟩
      have HI2 := Lib.hid hi
      have HB2 := Lib.hid (HB.out.trans hb)
      have HO2 := Lib.hid (HO.out.trans ho)
      clear hi hb ho
      go_wp2_with fail
      go_roundw
      case rel => exact ⟨k + 1, hlt, by go_num, by rw [HS.out]; exact HI2.out, HB2.out, HO2.out⟩
      case measure => simp [intOf]; omega
    · obtain rfl : k = n := by omega
      have hall : nb (zs.take k) = nb zs := by rw [List.take_of_length_le (by rw [HN.out]; exact Nat.le_refl _)]
      rw [hall] at HI
      clear hall
      go_wp2_with fail
      go_end0
      exact ⟨rfl, HI.out, HB.out, HO.out⟩
end Go.Proofs.YtpfbhckmpkiijaaDoor
