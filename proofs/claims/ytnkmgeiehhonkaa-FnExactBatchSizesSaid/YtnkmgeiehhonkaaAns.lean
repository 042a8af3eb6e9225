/-
  Words for Answer by value: reading, copying, sizes, comparing, marking and looking again. Conditions: the cells can be read.
-/
import Derived.Test.YtnkmgeiehhonkaaTyd
namespace Go.Proofs.Ytnkmgeiehhonkaa
open Go.RowKit
set_option linter.unusedVariables false

structure AnsP where
  tk : Int
  ba : Int
  ro : List Nat
structure AnsA where
  p : AnsP
  a0 : Option Addr
  c0 : Nat
def AnsA.cs (x : AnsA) : List Cl := [.int x.p.tk, .int x.p.ba, flC x.a0 x.c0 x.p.ro]
def AnsA.cells (x : AnsA) : Array Value := #[.int .i64 x.p.tk, .int .i64 x.p.ba, .slice x.a0 x.p.ro.length x.c0]
def AnsP.n (p : AnsP) : Nat := p.ro.length
def AnsP.can (p : AnsP) : AnsP := { p with ro := p.ro.map (canon .f32) }
theorem AnsA.vs_cs (x : AnsA) : vs x.cs = x.cells.toList := rfl
theorem AnsA.at_iff {w : World} {x : AnsA} : AtL w x.cs ↔ IsFloats .f32 w x.a0 x.p.ro.length x.c0 x.p.ro := by
  simp only [AnsA.cs, AtL, Cl.At, flC_at, true_and, and_true]
theorem AnsA.own_iff {w : World} {B : Nat} {x : AnsA} : OwnL w B x.cs ↔ OwnF w B x.a0 x.c0 x.p.ro := by
  simp only [AnsA.cs, OwnL, Cl.Own, flC_own, true_and, and_true]
theorem AnsA.bl_cs (x : AnsA) : blL x.cs = (blk x.a0).toList := by
  simp [AnsA.cs, blL, Cl.bl, flC_bl]
theorem AnsA.nodup {x : AnsA}  : (blL x.cs).Nodup := by
  rw [AnsA.bl_cs]
  exact nodup1 _ 
theorem AnsA.cs_len (x : AnsA) : x.cs.length = 3 := rfl
theorem AnsA.typed {l : List Cl} (h : typedL [.int, .int, .sl 72 1 [.f32]] l) : ∃ x : AnsA, l = x.cs := by
  simp only [typedL, Cl.typed.eq_1] at h
  obtain ⟨c0', l0', rfl, ⟨tk, rfl⟩, c1', l1', rfl, ⟨ba, rfl⟩, c2', l2', rfl, h2, rfl⟩ := h
  obtain ⟨a0, c0, ro, rfl⟩ := typed_f32s h2
  exact ⟨⟨⟨tk, ba, ro⟩, a0, c0⟩, rfl⟩
theorem Blk.ansfz {w : World} {g : Nat} {t : TypeId} {cs : Array Value} (h : Blk w g t cs) : w.frozen? ⟨g, 0, none⟩ = false ∧ w.frozen? ⟨g, 1, none⟩ = false ∧ w.frozen? ⟨g, 2, none⟩ = false :=
  ⟨h.frozen 0, h.frozen 1, h.frozen 2⟩
theorem Blk.ansbox {w : World} {g : Nat} {t : TypeId} {v0 v1 v2 : Value} (h : Blk w g t #[v0, v1, v2]) : w.cell? ⟨g, 0, none⟩ = some v0 ∧ w.cell? ⟨g, 1, none⟩ = some v1 ∧ w.cell? ⟨g, 2, none⟩ = some v2 ∧ g < w.heap.size :=
  ⟨h.cell 0, h.cell 1, h.cell 2, h.lt⟩
theorem store_Ans {w : World} {g : Nat} {t : TypeId} {v0 v1 v2 u0 u1 u2 : Value} (h : Blk w g t #[v0, v1, v2]) :
    Blk (((w.setCell ⟨g, 0, none⟩ u0).setCell ⟨g, 1, none⟩ u1).setCell ⟨g, 2, none⟩ u2) g t #[u0, u1, u2] ∧ w.grownBy (((w.setCell ⟨g, 0, none⟩ u0).setCell ⟨g, 1, none⟩ u1).setCell ⟨g, 2, none⟩ u2) (some g) := by
  constructor
  · unfold Blk at h ⊢
    simp [World.setCell, Array.getElem?_modify, h]
  · have st : ∀ (w : World) (i : Nat) (u : Value), w.grownBy (w.setCell ⟨g, i, none⟩ u) (some g) := fun w i u =>
      ⟨rfl, rfl, rfl, by simp, fun k _ hk => Below.heap_setCell w ⟨g, i, none⟩ u k (fun e => hk (by simp [e]))⟩
    exact grown_set (grown_set (st w 0 u0) (st _ 1 u1)) (st _ 2 u2)
set_option maxRecDepth 100000 in
open Go.ChangeShapes Go.WideShapes Go.Deep in
theorem open_Ans {H : Type} {enc : TypeId × Value → H} {W : World} {base b0 : Nat} {re : Reach} {held : Bool} {v : Value} {d : DataW H} {p : List MemPlace}
    (hv : Value.okWide Try.prog W re b0 136 v) (h : DataW.Trod enc Try.prog W base (fun _ => true) held 136 v d p) :
    ∃ x : AnsA, v = .agg x.cells ∧ AtL W x.cs := by
  obtain ⟨cs, rfl, hsz⟩ := okWide_struct Try.underlying136 hv
  obtain ⟨fuel, hf⟩ := h
  obtain ⟨l, e, ha, ht⟩ := opened 3 _ _ _ _ _ (show tyOf Try.prog 3 136 = some [.int, .int, .sl 72 1 [.f32]] by kernel_rfl) hf
  obtain ⟨x, rfl⟩ := AnsA.typed ht
  refine ⟨x, ?_, ha⟩
  rw [AnsA.vs_cs] at e
  simp only [Value.cells] at e
  rw [show cs = x.cells from (Array.toList_inj.1 e).symm]
theorem c_szAns (tk : Int) (ba : Int) (a0 : Option Addr) (n0 c0 l r : Nat) (w : World) (h : n0 ≤ l) (hl : l ≤ 1048576) (hr : l - (n0) = r) : Calls Try.prog 93 #[.agg #[.int .i64 tk, .int .i64 ba, .slice a0 n0 c0], .int .i64 l] w fun e w' => e = .returned (.int .i64 (r : Int)) ∧ Below w.heap.size w w' := by
  obtain ⟨l0, e0⟩ : ∃ l', l - n0 = l' := ⟨_, rfl⟩
  have H0 := Lib.hid (show n0 ≤ l by omega)
  have E0 := Lib.hid e0
  have s0 : l0 ≤ 1048576 := by omega
  have p0 : (0 : Int) ≤ (l0 : Int) := by omega
  have HR := Lib.hid (show r = l0 by omega)
  clear h hr e0
  go_enter Try.func93, Try.ntmps93
  go_wp2_with fail
  refine (c_szFloats _ _ _ _ _ H0.out (by first | exact hl | omega)).mono ?_
  rintro e w' ⟨rfl, rfl⟩
  rw [E0.out]
  go_wp2_with fail
  go_ret
  exact ⟨ret_i (by rw [HR.out]), (Below.refl _ _).alloc (Nat.le_refl _) _⟩
theorem c_szAns_no (tk : Int) (ba : Int) (a0 : Option Addr) (n0 c0 l : Nat) (w : World) (h : l < n0) (hl : l ≤ 1048576) (m0 : n0 ≤ 9223372036854775807) : Calls Try.prog 93 #[.agg #[.int .i64 tk, .int .i64 ba, .slice a0 n0 c0], .int .i64 l] w fun e w' => e = .returned (.int .i64 (-1)) ∧ Below w.heap.size w w' := by
  have H0 := Lib.hid (show l < n0 by omega)
  clear h 
  go_enter Try.func93, Try.ntmps93
  go_wp2_with fail
  refine (c_szFloats_no _ _ _ _ _ H0.out (by first | exact hl | omega) m0).mono ?_
  rintro e w' ⟨rfl, rfl⟩
  go_wp2_with fail
  go_ret
  exact ⟨rfl, (Below.refl _ _).alloc (Nat.le_refl _) _⟩
def RetAns (tk : Int) (ba : Int) (ro : List Nat) (w : World) (e : Ending) (w' : World) : Prop :=
  ∃ b0, e = .returned (.agg #[.int .i64 tk, .int .i64 ba, .slice b0 ro.length ro.length]) ∧ OwnF w' w.heap.size b0 ro.length ro ∧ Below w.heap.size w w'
set_option maxRecDepth 100000 in
set_option maxHeartbeats 1000000 in
theorem c_toAns (tk : Int) (ba : Int) (a0 : Option Addr) (c0 : Nat) (ro : List Nat) (w : World) (h0 : IsFloats .f32 w a0 ro.length c0 ro) (z0 : ro.length ≤ 1048576) : Calls Try.prog 96 #[.agg #[.int .i64 tk, .int .i64 ba, .slice a0 ro.length c0]] w (RetAns tk ba ro w) := by
  have H0 := Lib.hid h0
  have Z0 := Lib.hid z0
  clear h0 z0
  go_enter Try.func96, Try.ntmps96
  go_wp2_with fail
  have b0 := (((Below.refl w.heap.size w).alloc (Nat.le_refl _) (.cells #[.int .i64 tk, .int .i64 ba, .slice a0 ro.length c0] 136)).alloc (by simp) (.cells #[.int .i64 0, .int .i64 0, .slice none 0 0] 138)).alloc (by simp; omega) (.cells #[.int .i64 tk, .int .i64 ba, .slice none 0 0] 138)
  have k1 := (((Blk.new w 136 #[.int .i64 tk, .int .i64 ba, .slice a0 ro.length c0]).below ((Below.refl _ _).alloc (Nat.le_refl _) (.cells #[.int .i64 0, .int .i64 0, .slice none 0 0] 138)))).below ((Below.refl _ _).alloc (Nat.le_refl _) (.cells #[.int .i64 tk, .int .i64 ba, .slice none 0 0] 138))
  have k2 := (Blk.new (w.alloc (.cells #[.int .i64 tk, .int .i64 ba, .slice a0 ro.length c0] 136)) 138 #[.int .i64 0, .int .i64 0, .slice none 0 0]).below ((Below.refl _ _).alloc (Nat.le_refl _) (.cells #[.int .i64 tk, .int .i64 ba, .slice none 0 0] 138))
  have k3 := Blk.new ((w.alloc (.cells #[.int .i64 tk, .int .i64 ba, .slice a0 ro.length c0] 136)).alloc (.cells #[.int .i64 0, .int .i64 0, .slice none 0 0] 138)) 138 #[.int .i64 tk, .int .i64 ba, .slice none 0 0]
  simp only [World.size_alloc] at k2 k3
  have sz : ((w.alloc (.cells #[.int .i64 tk, .int .i64 ba, .slice a0 ro.length c0] 136)).alloc (.cells #[.int .i64 0, .int .i64 0, .slice none 0 0] 138)).heap.size + 1 = w.heap.size + 1 + 1 + 1 := by simp
  generalize ((w.alloc (.cells #[.int .i64 tk, .int .i64 ba, .slice a0 ro.length c0] 136)).alloc (.cells #[.int .i64 0, .int .i64 0, .slice none 0 0] 138)).alloc (.cells #[.int .i64 tk, .int .i64 ba, .slice none 0 0] 138) = W0 at b0 k1 k2 k3 ⊢
  have s0 : w.heap.size + 1 + 1 < W0.heap.size := k3.lt
  have B_0 := Lib.hid b0
  have K1_0 := Lib.hid k1
  have K2_0 := Lib.hid k2
  have K3_0 := Lib.hid k3
  have S_0 := Lib.hid s0
  clear b0 k1 k2 k3 sz s0
  refine (c_toFloats _ _ _ ro _ (H0.out.kept B_0.out) Z0.out).mono ?_
  rintro e X0 ⟨b0, rfl, hf, bl⟩
  have B_1 := Lib.hid (Below.next B_0.out bl)
  have K1_1 := Lib.hid (K1_0.out.below bl)
  have K2_1 := Lib.hid (K2_0.out.below bl)
  have K3_1 := Lib.hid (K3_0.out.below bl)
  have S_1 := Lib.hid (Nat.lt_of_lt_of_le S_0.out bl.size)
  have O0_1 := Lib.hid (hf.base S_0.out)
  clear hf bl B_0 K1_0 K2_0 K3_0 S_0 
  obtain ⟨p10, p11, p12, p1l⟩ := K1_1.out.ansbox
  obtain ⟨p30, p31, p32, p3l⟩ := K3_1.out.ansbox
  obtain ⟨p20, p21, p22, p2l⟩ := K2_1.out.ansbox
  obtain ⟨f30, f31, f32⟩ := K3_1.out.ansfz
  obtain ⟨f20, f21, f22⟩ := K2_1.out.ansfz
  go_wp2_with fail
  refine bodyPost_ret (v := .agg #[.int .i64 tk, .int .i64 ba, .slice b0 ro.length ro.length]) (by simp [results, Try.results96, go_sem, p20, p21, p22]) rfl ⟨b0, rfl, ?_⟩
  clear p10 p11 p12 p1l p30 p31 p32 p3l p20 p21 p22 p2l f20 f21 f22 f30 f31 f32
  exact ⟨((((O0_1.out.far (p := ⟨w.heap.size + 1 + 1, 2, none⟩) (by simp) (.slice b0 ro.length ro.length)).far (p := ⟨w.heap.size + 1, 0, none⟩) (by simp) (.int .i64 tk)).far (p := ⟨w.heap.size + 1, 1, none⟩) (by simp) (.int .i64 ba)).far (p := ⟨w.heap.size + 1, 2, none⟩) (by simp) (.slice b0 ro.length ro.length)).base (by omega), ((((B_1.out.setCell (p := ⟨w.heap.size + 1 + 1, 2, none⟩) (by first | (simp; done) | (simp; omega)) (.slice b0 ro.length ro.length)).setCell (p := ⟨w.heap.size + 1, 0, none⟩) (by first | (simp; done) | (simp; omega)) (.int .i64 tk)).setCell (p := ⟨w.heap.size + 1, 1, none⟩) (by first | (simp; done) | (simp; omega)) (.int .i64 ba)).setCell (p := ⟨w.heap.size + 1, 2, none⟩) (by first | (simp; done) | (simp; omega)) (.slice b0 ro.length ro.length))⟩
set_option maxHeartbeats 1000000 in
theorem c_eqAns (tk : Int) (ba : Int)  (a0 b0 : Option Addr) (c0 d0 : Nat) (ro ro' : List Nat) (w : World) (h0 : IsFloats .f32 w a0 ro.length c0 ro) (k0 : IsFloats .f32 w b0 ro'.length d0 ro') (q0 : ro.map (canon .f32) = ro'.map (canon .f32)) :
    Calls Try.prog 97 #[.agg #[.int .i64 tk, .int .i64 ba, .slice a0 ro.length c0], .agg #[.int .i64 tk, .int .i64 ba, .slice b0 ro'.length d0]] w fun e w' => e = .returned (.bool true) ∧ Below w.heap.size w w' := by
  have H0 := Lib.hid h0
  have K0 := Lib.hid k0
  have Q0 := Lib.hid q0
  clear h0 k0 q0
  go_enter Try.func97, Try.ntmps97
  go_wp2_with fail
  have HL := Lib.hid (((Below.refl w.heap.size w).alloc (Nat.le_refl _) (.cells #[.int .i64 tk, .int .i64 ba, .slice a0 ro.length c0] 138)).alloc (by simp) (.cells #[.int .i64 tk, .int .i64 ba, .slice b0 ro'.length d0] 138))
  refine (c_eqFloats _ _ _ _ ro ro' _ (H0.out.kept HL.out) (K0.out.kept HL.out) Q0.out).mono ?_
  rintro e w1 ⟨rfl, n0, rfl⟩
  go_wp2_with fail
  go_ret
  exact ⟨rfl, below_drewN HL.out _⟩
end Go.Proofs.Ytnkmgeiehhonkaa
