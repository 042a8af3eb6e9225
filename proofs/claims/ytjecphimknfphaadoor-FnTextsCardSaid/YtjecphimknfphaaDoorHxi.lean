/-
  Hexadecimal digits: the program's text of a number. Conditions: the number has 32 bits, the table of zeros is as its initialiser lays it.
-/
import Derived.Test.YtjecphimknfphaaDoorHxm
import Derived.Test.YtjecphimknfphaaDoorLdt
namespace Go.Proofs.YtjecphimknfphaaDoor
open Go.RowKit Go.Deep Go.WideShapes Go.ChangeShapes
set_option linter.unusedVariables false
set_option linter.unusedSimpArgs false

/-- the one cell of the table of zeros that is read -/
def DbOk (w : World) : Prop := w.cell? ⟨6, 15, none⟩ = some (.int .u8 4)
theorem DbOk.kept {w w' : World} (h : DbOk w) (hb : Below w.heap.size w w') : DbOk w' := (hb.cell (p := ⟨_, 15, none⟩) (cell_block h)).trans h
def intsOf : DataW Unit → List Int
  | .agg ds => ds.map fun
    | .lit (.int _ z) => z
    | _ => 0
  | _ => []
def dbName : String := Rows.fnTextsRow.named.getD 2 default
theorem db_ok {l : List (String × DataW Unit)} {W : World} (h : laidMetH Tryd.prog l W) (hp : (l.all fun x => x.2.handleName?.isNone) = true) (hm : (dbName, Rows.laid_math_bits_deBruijn64tab) ∈ l) : DbOk W := by
  rw [Go.MakeChecks.laidMetH_plain _ _ _ hp] at h
  obtain ⟨g, t, cs, fuel, p, h1, h2, h3, h4⟩ := Lib.laidMet.reads h hm
  have hg : Tryd.prog.globalNamed dbName = some 6 := by kernel_rfl
  obtain rfl := Option.some.inj (hg.symm.trans h1)
  have ht : (Tryd.prog.globals[6]?).map (·.type) = some 125 := by kernel_rfl
  obtain rfl := Option.some.inj (ht.symm.trans h2)
  have e : (Rows.laid_math_bits_deBruijn64tab : DataW Unit) = Lib.tabData .u8 (intsOf Rows.laid_math_bits_deBruijn64tab) := by kernel_rfl
  rw [e] at h4
  have hc := Lib.cells_of_tab Tryd.underlying125 Tryd.underlying5 (by kernel_rfl) (by kernel_rfl) h4
  unfold DbOk
  rw [World.var?_cell hg h3 15]
  have e2 : cs = ((intsOf Rows.laid_math_bits_deBruijn64tab).map fun z => Value.int .u8 z).toArray := Array.toList_inj.1 (by rw [hc])
  rw [e2]
  show ((intsOf Rows.laid_math_bits_deBruijn64tab).map fun z => Value.int .u8 z).toArray[15]? = some (.int .u8 4)
  kernel_rfl
set_option maxHeartbeats 1000000 in
theorem c_tz16 (w : World) (h : DbOk w) : Calls Tryd.prog 81 #[.int .u64 16] w fun e w' => e = .returned (.int .i64 4) ∧ w = w' := by
  unfold DbOk at h
  have e1 : IntKind.u64.wrap (-16) = 18446744073709551600 := by decide
  have e2 : bits .and .u64 16 18446744073709551600 = 16 := by decide
  have e3 : IntKind.u64.wrap (16 * 285870213051353865) = 4573923408821661840 := by decide
  have e4 : (4573923408821661840 : Int) / 288230376151711744 = 15 := by decide
  go_enter Tryd.func81, Tryd.ntmps81
  go_wp2_with fail
  go_ret
  exact ⟨rfl, rfl⟩
set_option maxHeartbeats 1000000 in
theorem c_tz (w : World) (h : DbOk w) : Calls Tryd.prog 72 #[.int .u64 16] w fun e w' => e = .returned (.int .i64 4) ∧ w = w' := by
  have H := Lib.hid (c_tz16 w h)
  clear h
  go_enter Tryd.func72, Tryd.ntmps72
  go_wp2_with fail
  refine H.out.mono ?_
  rintro e w2 ⟨rfl, rfl⟩
  go_wp2_with fail
  go_ret
  exact ⟨rfl, rfl⟩
set_option maxHeartbeats 1000000 in
theorem c_pow2 (w : World) : Calls Tryd.prog 71 #[.int .i64 16] w fun e w' => e = .returned (.bool true) ∧ w = w' := by
  have e2 : bits .and .i64 16 15 = 0 := by decide
  go_enter Tryd.func71, Tryd.ntmps71
  go_wp2_with fail
  go_ret
  exact ⟨rfl, rfl⟩
theorem u64_and15 (a : Nat) (ha : a < 4294967296) : bits .and .u64 (a : Int) 15 = ((a % 16 : Nat) : Int) := by
  show IntKind.u64.wrap ((BitVec.ofInt 64 (a : Int) &&& BitVec.ofInt 64 (15 : Int)).toNat : Int) = _
  have h1 : (BitVec.ofInt 64 (a : Int)).toNat = a := by rw [BitVec.ofInt_natCast, BitVec.toNat_ofNat]; exact Nat.mod_eq_of_lt (by omega)
  have h2 : (BitVec.ofInt 64 (15 : Int)).toNat = 15 := by decide
  have h3 : a &&& 15 = a % 16 := Nat.and_two_pow_sub_one_eq_mod a 4
  rw [BitVec.toNat_and, h1, h2, h3]
  simp [IntKind.wrap, IntKind.signed, IntKind.bits]
  omega
theorem lt36 {i : Nat} (h : i < 16) : i < (⟨#[48, 49, 50, 51, 52, 53, 54, 55, 56, 57, 97, 98, 99, 100, 101, 102, 103, 104, 105, 106, 107, 108, 109, 110, 111, 112, 113, 114, 115, 116, 117, 118, 119, 120, 121, 122]⟩ : ByteArray).size := by simp [ByteArray.size]; omega
theorem hex36_fin : ∀ i : Fin 16, (⟨#[48, 49, 50, 51, 52, 53, 54, 55, 56, 57, 97, 98, 99, 100, 101, 102, 103, 104, 105, 106, 107, 108, 109, 110, 111, 112, 113, 114, 115, 116, 117, 118, 119, 120, 121, 122]⟩ : ByteArray)[i.val]'(lt36 i.isLt) = hd i.val := by decide +kernel
theorem hex36_at (i : Nat) (h : i < 16) : (⟨#[48, 49, 50, 51, 52, 53, 54, 55, 56, 57, 97, 98, 99, 100, 101, 102, 103, 104, 105, 106, 107, 108, 109, 110, 111, 112, 113, 114, 115, 116, 117, 118, 119, 120, 121, 122]⟩ : ByteArray)[i]'(lt36 h) = hd i := hex36_fin ⟨i, h⟩
theorem set_row (z v : Value) (L : List Value) : ∀ m : Nat, (List.replicate (m + 1) z ++ L).set m v = List.replicate m z ++ v :: L
  | 0 => rfl
  | m + 1 => by
    have h := set_row z v L m
    rw [List.replicate_succ, List.cons_append, List.set_cons_succ, h, List.replicate_succ, List.cons_append]
/-- the digits that are written stand at the end of the row -/
def HexRow (w : World) (N : Nat) (D : List UInt8) : Prop := ∃ cs : Array Value, Blk w N 109 cs ∧ D.length ≤ 65 ∧ cs.toList = List.replicate (65 - D.length) (.int .u8 0) ++ Lib.byteCells D
theorem hexRow_new (w : World) : HexRow (w.alloc (.cells Tryd.zeroCells109 109)) w.heap.size [] := ⟨_, Blk.new w _ _, Nat.zero_le _, by kernel_rfl⟩
theorem HexRow.put {w : World} {N : Nat} {D : List UInt8} {c : UInt8} {i : Nat} (h : HexRow w N D) (hi : i + (D.length + 1) = 65) : HexRow (w.setCell ⟨N, i, none⟩ (.int .u8 c.toNat)) N (c :: D) := by
  obtain ⟨cs, hb, h6, hc⟩ := h
  refine ⟨cs.setIfInBounds i (.int .u8 c.toNat), ?_, by rw [List.length_cons]; omega, ?_⟩
  · unfold Blk at hb ⊢
    simp [World.setCell, Array.getElem?_modify, hb]
  · rw [Array.toList_setIfInBounds, hc, show 65 - D.length = i + 1 by omega, set_row, List.length_cons, show 65 - (D.length + 1) = i by omega]
    rfl
theorem HexRow.look {w : World} {N : Nat} {D : List UInt8} {i : Nat} (h : HexRow w N D) (hi : i + (D.length + 1) = 65) : w.cell? ⟨N, i, none⟩ = some (.int .u8 0) ∧ w.frozen? ⟨N, i, none⟩ = false := by
  obtain ⟨cs, hb, h6, hc⟩ := h
  refine ⟨?_, hb.frozen i⟩
  rw [hb.cell i, ← Array.getElem?_toList, hc, List.getElem?_append_left (by simp; omega), List.getElem?_replicate, if_pos (by omega)]
theorem HexRow.text {w : World} {N : Nat} {D : List UInt8} {i : Nat} (h : HexRow w N D) (hi : i + D.length = 65) : ∀ j, j < D.length → w.cell? ((⟨N, i, none⟩ : Addr).add j) = some (.int .u8 (D.getD j 0).toNat) := by
  obtain ⟨cs, hb, h6, hc⟩ := h
  intro j hj
  rw [add_plain, hb.cell (i + j), ← Array.getElem?_toList, hc, List.getElem?_append_right (by simp; omega)]
  simp [Lib.byteCells, List.getD_eq_getElem?_getD]
  have : i + j - (65 - D.length) = j := by omega
  rw [this]
  refine ⟨D[j], List.getElem?_eq_getElem hj, ?_⟩
  rw [List.getElem?_eq_getElem hj]
  rfl
theorem slice_65 (N k : Nat) (hk : k ≤ 64) (W : World) : (Instr.sliceAt 109 (.pointer (some ⟨N, 0, none⟩)) (some (.int .i64 k)) none none).run Tryd.prog W = .ok (.slice (some ⟨N, k, none⟩) (65 - k) (65 - k)) W := by
  have hal : Tryd.prog.arrayLen 109 = 65 := by simp [Program.arrayLen, Tryd.underlying109]
  have hel : Tryd.prog.elem 109 = 5 := by simp [Program.elem, Tryd.underlying109]
  rw [run_sliceAt_array_l W 109 ⟨N, 0, none⟩ (by rw [hal, hel]; exact Tryd.underlying109) .i64 (k : Int) (by omega) (by rw [hal]; omega), hal, hel, Tryd.sizeOf5]
  simp only [Result.andThen, slicedAt, sliced]
  simp [add_plain]
  omega
def FbRel (U N : Nat) (w : World) (s i : Value) (wr : World) : Prop :=
  ∃ (u : Nat) (D : List UInt8), s = .int .u64 u ∧ i = .int .i64 ((65 - D.length : Nat) : Int) ∧ D.length ≤ 7 ∧ u < 16 ^ (8 - D.length) ∧ hx U = hx u ++ D ∧ HexRow wr N D ∧ Below N w wr ∧ N < wr.heap.size
set_option maxRecDepth 20000 in
set_option maxHeartbeats 2000000 in
theorem c_formatBits (U : Nat) (hU : U < 4294967296) (w : World) (h : DbOk w) : Calls Tryd.prog 56 #[.slice none 0 0, .int .u64 U, .int .i64 16, .bool false, .bool false] w fun e w' => e = .returned (.tuple #[.slice none 0 0, .string ⟨(hx U).toArray⟩]) ∧ Below w.heap.size w w' := by
  have HD := Lib.hid h
  clear h
  have b0 : Below w.heap.size w (w.alloc (.cells Tryd.zeroCells109 109)) := (Below.refl _ _).alloc (Nat.le_refl _) _
  have B0 := Lib.hid b0
  have HTZ := Lib.hid (c_tz _ (HD.out.kept b0))
  have R0 := Lib.hid (hexRow_new w)
  have S0 := Lib.hid (show w.heap.size < (w.alloc (.cells Tryd.zeroCells109 109)).heap.size by rw [World.size_alloc]; exact Nat.lt_succ_self _)
  clear b0
  go_enter Tryd.func56, Tryd.ntmps56
  go_wp2_with fail
  refine (c_pow2 _).mono ?_
  rintro e w2 ⟨rfl, rfl⟩
  go_wp2_with fail
  refine HTZ.out.mono ?_
  rintro e w2 ⟨rfl, rfl⟩
  go_wp2_with fail
  generalize w.alloc (.cells Tryd.zeroCells109 109) = w1 at B0 R0 S0 ⊢
  go_loopw [1, 13] (fun s i wr => FbRel U w.heap.size w s i wr) (fun s _ _ => (intOf s).toNat)
  case atStart => exact ⟨U, [], rfl, rfl, Nat.zero_le _, hU, (List.append_nil _).symm, R0.out, B0.out, S0.out⟩
  case round =>
    obtain ⟨u, D, rfl, rfl, h7, hu, hx', hr, hb, hs⟩ := hrel
    have HX := Lib.hid hx'
    have HR := Lib.hid hr
    have HB := Lib.hid hb
    have HS := Lib.hid hs
    have hu32 : u < 4294967296 := by
      have : 16 ^ (8 - D.length) ≤ 16 ^ 8 := Nat.pow_le_pow_right (by omega) (by omega)
      have e : (16 : Nat) ^ 8 = 4294967296 := by decide
      omega
    obtain ⟨k, hk⟩ : ∃ k, 64 - D.length = k := ⟨_, rfl⟩
    obtain ⟨c0, f0⟩ := HR.out.look (i := k) (by omega)
    have hki : ((65 - D.length : Nat) : Int) - 1 = (k : Int) := by omega
    have hkk : ((65 - D.length : Nat) : Int) = (k : Int) + 1 := by omega
    have hand := u64_and15 u hu32
    have hui : (u : Int) ≤ 4294967295 := by omega
    have hu0 : (0 : Int) ≤ (u : Int) := by omega
    have hk0 : (0 : Int) ≤ (k : Int) := by omega
    have hk64 : (k : Int) ≤ 64 := by omega
    clear hx' hr hb hs
    rw [hkk]
    by_cases hlt : 16 ≤ u
    · have hlt' : (16 : Int) ≤ (u : Int) := by omega
      have hpw : 16 ^ (8 - D.length) = 16 ^ (8 - (D.length + 1)) * 16 := by rw [← Nat.pow_succ]; congr 1; omega
      have hd6 : D.length ≤ 6 := by
        refine Nat.le_of_not_lt fun h => ?_
        rw [show D.length = 7 by omega] at hu
        omega
      have HU := Lib.hid (show u / 16 < 16 ^ (8 - (D.length + 1)) by rw [hpw] at hu; omega)
      have HX2 := Lib.hid (show hx U = hx (u / 16) ++ (hd (u % 16) :: D) by rw [HX.out, hx_big (by omega), List.append_assoc]; rfl)
      have HK := Lib.hid hk
      have HR2 := Lib.hid (HR.out.put (c := hd (u % 16)) (i := k) (by omega))
      have HAT := Lib.hid (hex36_at (u % 16) (by omega))
      clear hu hpw
      go_wp2_with fail
      rw [HAT.out]
      go_roundw
      case rel => exact ⟨u / 16, hd (u % 16) :: D, by simp, by rw [List.length_cons]; have := HK.out; congr 2; omega, by rw [List.length_cons]; omega, by rw [List.length_cons]; exact HU.out, HX2.out, HR2.out, HB.out.setCell (p := ⟨w.heap.size, k, none⟩) (Nat.le_refl _) _, by rw [World.size_setCell]; exact HS.out⟩
      case measure => simp [intOf]; omega
    · have hlt' : ¬ (16 : Int) ≤ (u : Int) := by omega
      have HX2 := Lib.hid (show hx U = hd u :: D by rw [HX.out, hx_small (by omega)]; rfl)
      have HR2 := Lib.hid (HR.out.put (c := hd u) (i := k) (by omega))
      have HAT := Lib.hid (hex36_at u (by omega))
      have HSL := slice_65 w.heap.size k (by omega)
      have HK := Lib.hid hk
      clear hu
      go_wp2_with fail
      rw [HAT.out]
      have HB2 := Lib.hid (HB.out.setCell (p := ⟨w.heap.size, k, none⟩) (Nat.le_refl _) (.int .u8 (hd u).toNat))
      generalize wr.setCell ⟨w.heap.size, k, none⟩ (.int .u8 (hd u).toNat) = w5 at HR2 HB2 ⊢
      have HC := run_convert_bytes_back w5 _ _ 5 ⟨w.heap.size, k, none⟩ (65 - k) (hd u :: D) Tryd.underlying22 Tryd.underlying5 Tryd.underlying9 (fun j hj => by
        rw [HR2.out.text (by rw [List.length_cons]; have := HK.out; omega) j hj, List.getD_eq_getElem?_getD, List.getElem?_eq_getElem hj]
        rfl)
      rw [show (hd u :: D).length = 65 - k by rw [List.length_cons]; have := HK.out; omega] at HC
      rw [HC]
      simp only [Result.andThen]
      rw [Oper.upon_value]
      go_wp2_with fail
      go_ret2
      exact ⟨by rw [HX2.out]; rfl, HB2.out⟩
end Go.Proofs.YtjecphimknfphaaDoor
