/-
  Products of tensors as the program makes them, by a function that is handed over. Conditions: the numbers can be read.
-/
import Derived.Test.YtmnogpanoakbdaaLists
import Derived.Test.YtmnogpanoakbdaaTakeCol
import Derived.Test.YtmnogpanoakbdaaLike
import Derived.Test.YtmnogpanoakbdaaEqf
import Derived.Deep.RegionHeld3
namespace Go.Proofs.Ytmnogpanoakbdaa
open Go.RowKit Go.Deep Go.WideShapes Go.ChangeShapes

def rowL (z : List Nat) (C i : Nat) : List Nat := (z.drop (i * C)).take C
theorem rowL_length {z : List Nat} {R C i : Nat} (hn : z.length = R * C) (hi : i < R) : (rowL z C i).length = C := by
  have e1 : (i + 1) * C ≤ R * C := Nat.mul_le_mul_right C hi
  have e2 : (i + 1) * C = i * C + C := by rw [Nat.add_mul, Nat.one_mul]
  unfold rowL
  simp; omega
theorem rowL_getD {z : List Nat} {C i k : Nat} (hk : k < C) : (rowL z C i).getD k 0 = z.getD (i * C + k) 0 := by
  unfold rowL
  simp [List.getD, hk]
/-- number p of a product -/
def mulF (dotv : List Nat → List Nat → Nat) (za zb : List Nat) (M K p : Nat) : Nat := dotv (rowL za M (p / K)) (colL zb M K (p % K))
theorem mulF_at {dotv : List Nat → List Nat → Nat} {za zb : List Nat} {M K i k : Nat} (hk : k < K) : mulF dotv za zb M K (i * K + k) = dotv (rowL za M i) (colL zb M K k) := by
  unfold mulF
  have h1 : (i * K + k) % K = k := by rw [Nat.mul_comm, Nat.mul_add_mod, Nat.mod_eq_of_lt hk]
  have h2 : (i * K + k) / K = i := by rw [Nat.mul_comm, Nat.mul_add_div (by omega), Nat.div_eq_of_lt hk, Nat.add_zero]
  rw [h1, h2]
def mulRow (dotv : List Nat → List Nat → Nat) (za zb : List Nat) (M K i : Nat) : List Nat := (List.range K).map fun k => dotv (rowL za M i) (colL zb M K k)
theorem mul_flat (dotv : List Nat → List Nat → Nat) (za zb : List Nat) (M K n : Nat) : (List.range n).flatMap (mulRow dotv za zb M K) = (List.range (n * K)).map (mulF dotv za zb M K) := by
  induction n with
  | zero => simp
  | succ n ih =>
    rw [List.range_succ, List.flatMap_append, ih, Nat.add_mul, Nat.one_mul, List.range_add, List.map_append]
    congr 1
    simp only [List.flatMap_cons, List.flatMap_nil, List.append_nil]
    rw [List.map_map]
    unfold mulRow
    refine List.map_congr_left fun k hk => ?_
    exact (mulF_at (List.mem_range.1 hk)).symm
def fitB (r c r' c' : Int) (n n' : Nat) : Bool := ((vokB r c n && vokB r' c' n') && (c == r'))
def vMul (dotv : List Nat → List Nat → Nat) (r c : Int) (za : List Nat) (r' c' : Int) (zb : List Nat) : Int × Int × Bool × List Nat :=
  if fitB r c r' c' za.length zb.length = true then (r, c', true, (List.range (r.toNat * c'.toNat)).map (mulF dotv za zb c.toNat c'.toNat)) else (0, 0, false, [])
theorem vMul_no {dotv : List Nat → List Nat → Nat} {r c r' c' : Int} {za zb : List Nat} (h : fitB r c r' c' za.length zb.length = false) : vMul dotv r c za r' c' zb = (0, 0, false, []) := by unfold vMul; rw [if_neg (by rw [h]; decide)]
theorem vMul_yes {dotv : List Nat → List Nat → Nat} {R M K : Nat} {za zb : List Nat} (h : fitB R M M K za.length zb.length = true) : vMul dotv R M za M K zb = ((R : Int), (K : Int), true, (List.range (R * K)).map (mulF dotv za zb M K)) := by unfold vMul; rw [if_pos h]; simp
theorem fit_nat {r c r' c' : Int} {n n' : Nat} (h : fitB r c r' c' n n' = true) : ∃ R M K : Nat, r = R ∧ c = M ∧ r' = M ∧ c' = K ∧ 1 ≤ R ∧ R ≤ 16 ∧ 1 ≤ M ∧ M ≤ 16 ∧ 1 ≤ K ∧ K ≤ 16 ∧ n = R * M ∧ n' = M * K := by
  simp only [fitB, Bool.and_eq_true, beq_iff_eq] at h
  obtain ⟨⟨h1, h2⟩, h3⟩ := h
  obtain ⟨R, C, rfl, rfl, a1, a2, a3, a4, a5⟩ := vok_nat h1
  obtain ⟨R', C', rfl, rfl, b1, b2, b3, b4, b5⟩ := vok_nat h2
  have : C = R' := by omega
  subst this
  exact ⟨R, C, C', rfl, rfl, rfl, rfl, a1, a2, a3, a4, b3, b4, a5, b5⟩
theorem vMul_len (dotv : List Nat → List Nat → Nat) (r c : Int) (za : List Nat) (r' c' : Int) (zb : List Nat) : (vMul dotv r c za r' c' zb).2.2.2.length ≤ 1048576 := by
  cases h : fitB r c r' c' za.length zb.length with
  | false => rw [vMul_no h]; simp
  | true =>
    obtain ⟨R, M, K, rfl, rfl, rfl, rfl, h1, h2, h3, h4, h5, h6, h7, h8⟩ := fit_nat h
    rw [vMul_yes h]
    have := Nat.mul_le_mul h2 h6
    simp; omega
/-- what is asked of a function that multiplies a row and a column -/
def DotOk (D : FuncId) (caps : Array Value) (dotv : List Nat → List Nat → Nat) (w : World) : Prop :=
  (∀ (xs : Array Value) (wr : World), (callFunc D xs).run Try.prog wr = .ok (.enter D xs) wr) ∧
  ∀ (xs ys : List Nat) (a b : Option Addr) (ca cb n : Nat) (wr : World), n ≤ 16 → 1 ≤ n → IsFloats .f32 wr a n ca xs → IsFloats .f32 wr b n cb ys → Below w.heap.size w wr → Calls Try.prog D (#[.slice a n ca, .slice b n cb] ++ caps) wr (RetX (dotv xs ys) wr)
theorem DotOk.later {D : FuncId} {caps : Array Value} {dotv : List Nat → List Nat → Nat} {w w' : World} (h : DotOk D caps dotv w) (hb : Below w.heap.size w w') : DotOk D caps dotv w' :=
  ⟨h.1, fun xs ys a b ca cb n wr h1 h2 h3 h4 h5 => h.2 xs ys a b ca cb n wr h1 h2 h3 h4 (Below.next hb h5)⟩
set_option maxRecDepth 20000 in
set_option maxHeartbeats 400000 in
theorem c_mb11 (D : FuncId) (caps : Array Value) (dotv : List Nat → List Nat → Nat) (gd gr : Nat) (xs ys : List Nat) (a b : Option Addr) (ca cb n : Nat) (w0 w : World) (hD : DotOk D caps dotv w0) (h1 : n ≤ 16) (h2 : 1 ≤ n) (hx : IsFloats .f32 w a n ca xs) (hy : IsFloats .f32 w b n cb ys) (hb : Below w0.heap.size w0 w)
    (p0 : w.cell? ⟨gd, 0, none⟩ = some (.func (.func D) #[] caps)) (p1 : w.cell? ⟨gr, 0, none⟩ = some (.slice a n ca)) :
    Calls Try.prog 107 #[.slice b n cb, .pointer (some ⟨gd, 0, none⟩), .pointer (some ⟨gr, 0, none⟩)] w (RetX (dotv xs ys) w) := by
  have HX := Lib.hid hx
  have HY := Lib.hid hy
  have HB := Lib.hid hb
  have hE := hD.1
  have HD := Lib.hid hD.2
  clear hx hy hb hD
  go_enter Try.func107, Try.ntmps107
  go_wp2_with fail
  refine (HD.out xs ys a b ca cb n _ h1 h2 HX.out HY.out HB.out).mono ?_
  rintro e w2 ⟨r, rfl, hr, hrl, hbl⟩
  have HR := Lib.hid hr
  have HRL := Lib.hid hrl
  have HBL := Lib.hid hbl
  clear hr hrl hbl
  go_wp2_with fail
  go_ret
  exact ⟨r, rfl, HR.out, HRL.out, HBL.out⟩
set_option maxRecDepth 20000 in
set_option maxHeartbeats 400000 in
theorem c_mb1 (D : FuncId) (caps : Array Value) (dotv : List Nat → List Nat → Nat) (gb gd M K : Nat) (xs zb : List Nat) (a b : Option Addr) (ca cb m : Nat) (w0 w : World) (hD : DotOk D caps dotv w0) (h1 : M ≤ 16) (h2 : 1 ≤ M) (h3 : K ≤ 16) (hm : m = M * K) (hx : IsFloats .f32 w a M ca xs) (hz : IsFloats .f32 w b m cb zb) (hb : Below w0.heap.size w0 w)
    (q0 : w.cell? ⟨gb, 0, none⟩ = some (.int .i64 M)) (q1 : w.cell? ⟨gb, 1, none⟩ = some (.int .i64 K)) (q2 : w.cell? ⟨gb, 2, none⟩ = some (.slice b m cb)) (p0 : w.cell? ⟨gd, 0, none⟩ = some (.func (.func D) #[] caps)) :
    Calls Try.prog 106 #[.slice a M ca, .pointer (some ⟨gb, 0, none⟩), .pointer (some ⟨gd, 0, none⟩)] w (RetLs ((List.range K).map fun k => dotv xs (colL zb M K k)) w) := by
  have HX := Lib.hid hx
  have HZ := Lib.hid hz
  have HB := Lib.hid hb
  have HD := Lib.hid hD
  have HM := Lib.hid hm
  have P0 := Lib.hid p0
  have hgd : gd < w.heap.size := cell_block p0
  have hgb : gb < w.heap.size := cell_block q0
  have hgb1 : gb < w.heap.size + 1 := by omega
  clear hx hz hb hD hm p0
  go_enter Try.func106, Try.ntmps106
  go_wp2_with fail
  have bl := (Below.refl w.heap.size w).alloc (Nat.le_refl _) (.cells #[.slice a M ca] 24)
  have k1 := Blk.new w 24 #[.slice a M ca]
  have BL := Lib.hid bl
  have K1 := Lib.hid k1
  clear bl k1
  refine (c_takeLines 67 107 #[.pointer (some ⟨gd, 0, none⟩), .pointer (some ⟨w.heap.size, 0, none⟩)] (fun k => colL zb M K k) (fun k => dotv xs (colL zb M K k)) M K b m cb K _ (by omega)
    (enters_of Try.func67 (by kernel_rfl) (by kernel_rfl)) (enters_of Try.func107 (by kernel_rfl) (by kernel_rfl))
    (fun k wr hk hb => c_iColumn M K k b m cb zb wr ((HZ.out.kept BL.out).kept hb) h2 h1 h3 hk HM.out)
    (fun k b2 c2 wr hk hb hf => by
      rw [colL_length] at hf ⊢
      have hbl := Below.next BL.out hb
      exact c_mb11 D caps dotv gd w.heap.size xs (colL zb M K k) a b2 ca c2 M w0 wr HD.out h1 h2 (HX.out.kept hbl) hf (Below.next HB.out hbl) ((hbl.cell (p := ⟨gd, 0, none⟩) hgd).trans P0.out) ((K1.out.below hb).cell 0))).mono ?_
  rintro e w2 ⟨b3, c3, ys, rfl, hf, hm, hbl⟩
  have HF := Lib.hid (hf.base (B' := w.heap.size) (by simp))
  have HMM := Lib.hid hm
  have HBL := Lib.hid (Below.next BL.out hbl)
  clear hf hm hbl q0 q1 q2
  go_wp2_with fail
  go_ret
  exact ⟨b3, c3, ys, rfl, HF.out, HMM.out, HBL.out⟩
end Go.Proofs.Ytmnogpanoakbdaa
