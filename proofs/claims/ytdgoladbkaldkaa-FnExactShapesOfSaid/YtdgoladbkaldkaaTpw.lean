/-
  Words for Op by value: reading, copying, sizes, comparing, marking and looking again. Conditions: the cells can be read.
-/
import Derived.Test.YtdgoladbkaldkaaTyd
namespace Go.Proofs.Ytdgoladbkaldkaa
open Go.RowKit
set_option linter.unusedVariables false

structure TpP where
  kd : Int
  xa : Int
  xb : Int
  nu : Nat
  rw : Int
  cl : Int
  zd : List Nat
structure TpA where
  p : TpP
  a0 : Option Addr
  c0 : Nat
def TpA.cs (x : TpA) : List Cl := [.int x.p.kd, .int x.p.xa, .int x.p.xb, .f32 x.p.nu, .int x.p.rw, .int x.p.cl, flC x.a0 x.c0 x.p.zd]
def TpA.cells (x : TpA) : Array Value := #[.int .i64 x.p.kd, .int .i64 x.p.xa, .int .i64 x.p.xb, .float .f32 x.p.nu, .int .i64 x.p.rw, .int .i64 x.p.cl, .slice x.a0 x.p.zd.length x.c0]
def TpP.n (p : TpP) : Nat := p.zd.length
def TpP.can (p : TpP) : TpP := { p with nu := canon .f32 p.nu, zd := p.zd.map (canon .f32) }
theorem TpA.vs_cs (x : TpA) : vs x.cs = x.cells.toList := rfl
theorem TpA.at_iff {w : World} {x : TpA} : AtL w x.cs ↔ x.p.nu < 2 ^ 32 ∧ IsFloats .f32 w x.a0 x.p.zd.length x.c0 x.p.zd := by
  simp only [TpA.cs, AtL, Cl.At, flC_at, true_and, and_true]
theorem TpA.own_iff {w : World} {B : Nat} {x : TpA} : OwnL w B x.cs ↔ x.p.nu < 2 ^ 32 ∧ OwnF w B x.a0 x.c0 x.p.zd := by
  simp only [TpA.cs, OwnL, Cl.Own, flC_own, true_and, and_true]
theorem TpA.bl_cs (x : TpA) : blL x.cs = (blk x.a0).toList := by
  simp [TpA.cs, blL, Cl.bl, flC_bl]
theorem TpA.nodup {x : TpA}  : (blL x.cs).Nodup := by
  rw [TpA.bl_cs]
  exact nodup1 _ 
theorem TpA.cs_len (x : TpA) : x.cs.length = 7 := rfl
theorem TpA.typed {l : List Cl} (h : typedL [.int, .int, .int, .f32, .int, .int, .sl 52 1 [.f32]] l) : ∃ x : TpA, l = x.cs := by
  simp only [typedL, Cl.typed.eq_1, Cl.typed.eq_2] at h
  obtain ⟨c0', l0', rfl, ⟨kd, rfl⟩, c1', l1', rfl, ⟨xa, rfl⟩, c2', l2', rfl, ⟨xb, rfl⟩, c3', l3', rfl, ⟨nu, rfl⟩, c4', l4', rfl, ⟨rw, rfl⟩, c5', l5', rfl, ⟨cl, rfl⟩, c6', l6', rfl, h6, rfl⟩ := h
  obtain ⟨a0, c0, zd, rfl⟩ := typed_f32s h6
  exact ⟨⟨⟨kd, xa, xb, nu, rw, cl, zd⟩, a0, c0⟩, rfl⟩
theorem Blk.tpfz {w : World} {g : Nat} {t : TypeId} {cs : Array Value} (h : Blk w g t cs) : w.frozen? ⟨g, 0, none⟩ = false ∧ w.frozen? ⟨g, 1, none⟩ = false ∧ w.frozen? ⟨g, 2, none⟩ = false ∧ w.frozen? ⟨g, 3, none⟩ = false ∧ w.frozen? ⟨g, 4, none⟩ = false ∧ w.frozen? ⟨g, 5, none⟩ = false ∧ w.frozen? ⟨g, 6, none⟩ = false :=
  ⟨h.frozen 0, h.frozen 1, h.frozen 2, h.frozen 3, h.frozen 4, h.frozen 5, h.frozen 6⟩
theorem Blk.tpbox {w : World} {g : Nat} {t : TypeId} {v0 v1 v2 v3 v4 v5 v6 : Value} (h : Blk w g t #[v0, v1, v2, v3, v4, v5, v6]) : w.cell? ⟨g, 0, none⟩ = some v0 ∧ w.cell? ⟨g, 1, none⟩ = some v1 ∧ w.cell? ⟨g, 2, none⟩ = some v2 ∧ w.cell? ⟨g, 3, none⟩ = some v3 ∧ w.cell? ⟨g, 4, none⟩ = some v4 ∧ w.cell? ⟨g, 5, none⟩ = some v5 ∧ w.cell? ⟨g, 6, none⟩ = some v6 ∧ g < w.heap.size :=
  ⟨h.cell 0, h.cell 1, h.cell 2, h.cell 3, h.cell 4, h.cell 5, h.cell 6, h.lt⟩
theorem store_Tp {w : World} {g : Nat} {t : TypeId} {v0 v1 v2 v3 v4 v5 v6 u0 u1 u2 u3 u4 u5 u6 : Value} (h : Blk w g t #[v0, v1, v2, v3, v4, v5, v6]) :
    Blk (((((((w.setCell ⟨g, 0, none⟩ u0).setCell ⟨g, 1, none⟩ u1).setCell ⟨g, 2, none⟩ u2).setCell ⟨g, 3, none⟩ u3).setCell ⟨g, 4, none⟩ u4).setCell ⟨g, 5, none⟩ u5).setCell ⟨g, 6, none⟩ u6) g t #[u0, u1, u2, u3, u4, u5, u6] ∧ w.grownBy (((((((w.setCell ⟨g, 0, none⟩ u0).setCell ⟨g, 1, none⟩ u1).setCell ⟨g, 2, none⟩ u2).setCell ⟨g, 3, none⟩ u3).setCell ⟨g, 4, none⟩ u4).setCell ⟨g, 5, none⟩ u5).setCell ⟨g, 6, none⟩ u6) (some g) := by
  constructor
  · unfold Blk at h ⊢
    simp [World.setCell, Array.getElem?_modify, h]
  · have st : ∀ (w : World) (i : Nat) (u : Value), w.grownBy (w.setCell ⟨g, i, none⟩ u) (some g) := fun w i u =>
      ⟨rfl, rfl, rfl, by simp, fun k _ hk => Below.heap_setCell w ⟨g, i, none⟩ u k (fun e => hk (by simp [e]))⟩
    exact grown_set (grown_set (grown_set (grown_set (grown_set (grown_set (st w 0 u0) (st _ 1 u1)) (st _ 2 u2)) (st _ 3 u3)) (st _ 4 u4)) (st _ 5 u5)) (st _ 6 u6)
set_option maxRecDepth 100000 in
open Go.ChangeShapes Go.WideShapes Go.Deep in
theorem open_Tp {H : Type} {enc : TypeId × Value → H} {W : World} {base b0 : Nat} {re : Reach} {held : Bool} {v : Value} {d : DataW H} {p : List MemPlace}
    (hv : Value.okWide Try.prog W re b0 54 v) (h : DataW.Trod enc Try.prog W base (fun _ => true) held 54 v d p) :
    ∃ x : TpA, v = .agg x.cells ∧ AtL W x.cs := by
  obtain ⟨cs, rfl, hsz⟩ := okWide_struct Try.underlying54 hv
  obtain ⟨fuel, hf⟩ := h
  obtain ⟨l, e, ha, ht⟩ := opened 4 _ _ _ _ _ (show tyOf Try.prog 4 54 = some [.int, .int, .int, .f32, .int, .int, .sl 52 1 [.f32]] by kernel_rfl) hf
  obtain ⟨x, rfl⟩ := TpA.typed ht
  refine ⟨x, ?_, ha⟩
  rw [TpA.vs_cs] at e
  simp only [Value.cells] at e
  rw [show cs = x.cells from (Array.toList_inj.1 e).symm]
theorem c_szTp (kd : Int) (xa : Int) (xb : Int) (nu : Nat) (rw : Int) (cl : Int) (a0 : Option Addr) (n0 c0 l r : Nat) (w : World) (h : n0 ≤ l) (hl : l ≤ 1048576) (hr : l - (n0) = r) : Calls Try.prog 30 #[.agg #[.int .i64 kd, .int .i64 xa, .int .i64 xb, .float .f32 nu, .int .i64 rw, .int .i64 cl, .slice a0 n0 c0], .int .i64 l] w fun e w' => e = .returned (.int .i64 (r : Int)) ∧ Below w.heap.size w w' := by
  obtain ⟨l0, e0⟩ : ∃ l', l - n0 = l' := ⟨_, rfl⟩
  have H0 := Lib.hid (show n0 ≤ l by omega)
  have E0 := Lib.hid e0
  have s0 : l0 ≤ 1048576 := by omega
  have p0 : (0 : Int) ≤ (l0 : Int) := by omega
  have HR := Lib.hid (show r = l0 by omega)
  clear h hr e0
  go_enter Try.func30, Try.ntmps30
  go_wp2_with fail
  refine (c_szTensor' rw cl a0 n0 c0 l l0 _ H0.out hl E0.out).mono ?_
  rintro e w' ⟨rfl, bl⟩
  have B := Lib.hid (Below.next ((Below.refl w.heap.size w).alloc (Nat.le_refl _) _) bl)
  clear bl
  go_wp2_with fail
  go_ret
  exact ⟨ret_i (by rw [HR.out]), B.out⟩
theorem c_szTp_no (kd : Int) (xa : Int) (xb : Int) (nu : Nat) (rw : Int) (cl : Int) (a0 : Option Addr) (n0 c0 l : Nat) (w : World) (h : l < n0) (hl : l ≤ 1048576) (m0 : n0 ≤ 9223372036854775807) : Calls Try.prog 30 #[.agg #[.int .i64 kd, .int .i64 xa, .int .i64 xb, .float .f32 nu, .int .i64 rw, .int .i64 cl, .slice a0 n0 c0], .int .i64 l] w fun e w' => e = .returned (.int .i64 (-1)) ∧ Below w.heap.size w w' := by
  have H0 := Lib.hid (show l < n0 by omega)
  clear h 
  go_enter Try.func30, Try.ntmps30
  go_wp2_with fail
  refine (c_szTensor_no rw cl a0 n0 c0 l _ H0.out hl m0).mono ?_
  rintro e w' ⟨rfl, bl⟩
  have B := Lib.hid (Below.next ((Below.refl w.heap.size w).alloc (Nat.le_refl _) _) bl)
  clear bl
  go_wp2_with fail
  go_ret
  exact ⟨rfl, B.out⟩
def RetTp (kd : Int) (xa : Int) (xb : Int) (nu : Nat) (rw : Int) (cl : Int) (zd : List Nat) (w : World) (e : Ending) (w' : World) : Prop :=
  ∃ b0, e = .returned (.agg #[.int .i64 kd, .int .i64 xa, .int .i64 xb, .float .f32 nu, .int .i64 rw, .int .i64 cl, .slice b0 zd.length zd.length]) ∧ OwnF w' w.heap.size b0 zd.length zd ∧ Below w.heap.size w w'
set_option maxRecDepth 100000 in
set_option maxHeartbeats 1000000 in
theorem c_toTp (kd : Int) (xa : Int) (xb : Int) (nu : Nat) (rw : Int) (cl : Int) (a0 : Option Addr) (c0 : Nat) (zd : List Nat) (w : World) (h0 : IsFloats .f32 w a0 zd.length c0 zd) (z0 : zd.length ≤ 1048576) : Calls Try.prog 32 #[.agg #[.int .i64 kd, .int .i64 xa, .int .i64 xb, .float .f32 nu, .int .i64 rw, .int .i64 cl, .slice a0 zd.length c0]] w (RetTp kd xa xb nu rw cl zd w) := by
  have H0 := Lib.hid h0
  have Z0 := Lib.hid z0
  clear h0 z0
  go_enter Try.func32, Try.ntmps32
  go_wp2_with fail
  have b0 := (((Below.refl w.heap.size w).alloc (Nat.le_refl _) (.cells #[.int .i64 kd, .int .i64 xa, .int .i64 xb, .float .f32 nu, .int .i64 rw, .int .i64 cl, .slice a0 zd.length c0] 54)).alloc (by simp) (.cells #[.int .i64 0, .int .i64 0, .int .i64 0, .float .f32 0, .int .i64 0, .int .i64 0, .slice none 0 0] 56)).alloc (by simp; omega) (.cells #[.int .i64 kd, .int .i64 xa, .int .i64 xb, .float .f32 nu, .int .i64 0, .int .i64 0, .slice none 0 0] 56)
  have k1 := (((Blk.new w 54 #[.int .i64 kd, .int .i64 xa, .int .i64 xb, .float .f32 nu, .int .i64 rw, .int .i64 cl, .slice a0 zd.length c0]).below ((Below.refl _ _).alloc (Nat.le_refl _) (.cells #[.int .i64 0, .int .i64 0, .int .i64 0, .float .f32 0, .int .i64 0, .int .i64 0, .slice none 0 0] 56)))).below ((Below.refl _ _).alloc (Nat.le_refl _) (.cells #[.int .i64 kd, .int .i64 xa, .int .i64 xb, .float .f32 nu, .int .i64 0, .int .i64 0, .slice none 0 0] 56))
  have k2 := (Blk.new (w.alloc (.cells #[.int .i64 kd, .int .i64 xa, .int .i64 xb, .float .f32 nu, .int .i64 rw, .int .i64 cl, .slice a0 zd.length c0] 54)) 56 #[.int .i64 0, .int .i64 0, .int .i64 0, .float .f32 0, .int .i64 0, .int .i64 0, .slice none 0 0]).below ((Below.refl _ _).alloc (Nat.le_refl _) (.cells #[.int .i64 kd, .int .i64 xa, .int .i64 xb, .float .f32 nu, .int .i64 0, .int .i64 0, .slice none 0 0] 56))
  have k3 := Blk.new ((w.alloc (.cells #[.int .i64 kd, .int .i64 xa, .int .i64 xb, .float .f32 nu, .int .i64 rw, .int .i64 cl, .slice a0 zd.length c0] 54)).alloc (.cells #[.int .i64 0, .int .i64 0, .int .i64 0, .float .f32 0, .int .i64 0, .int .i64 0, .slice none 0 0] 56)) 56 #[.int .i64 kd, .int .i64 xa, .int .i64 xb, .float .f32 nu, .int .i64 0, .int .i64 0, .slice none 0 0]
  simp only [World.size_alloc] at k2 k3
  have sz : ((w.alloc (.cells #[.int .i64 kd, .int .i64 xa, .int .i64 xb, .float .f32 nu, .int .i64 rw, .int .i64 cl, .slice a0 zd.length c0] 54)).alloc (.cells #[.int .i64 0, .int .i64 0, .int .i64 0, .float .f32 0, .int .i64 0, .int .i64 0, .slice none 0 0] 56)).heap.size + 1 = w.heap.size + 1 + 1 + 1 := by simp
  generalize ((w.alloc (.cells #[.int .i64 kd, .int .i64 xa, .int .i64 xb, .float .f32 nu, .int .i64 rw, .int .i64 cl, .slice a0 zd.length c0] 54)).alloc (.cells #[.int .i64 0, .int .i64 0, .int .i64 0, .float .f32 0, .int .i64 0, .int .i64 0, .slice none 0 0] 56)).alloc (.cells #[.int .i64 kd, .int .i64 xa, .int .i64 xb, .float .f32 nu, .int .i64 0, .int .i64 0, .slice none 0 0] 56) = W0 at b0 k1 k2 k3 ⊢
  have s0 : w.heap.size + 1 + 1 < W0.heap.size := k3.lt
  have B_0 := Lib.hid b0
  have K1_0 := Lib.hid k1
  have K2_0 := Lib.hid k2
  have K3_0 := Lib.hid k3
  have S_0 := Lib.hid s0
  clear b0 k1 k2 k3 sz s0
  refine (c_toTensor rw cl a0 _ c0 zd _ (H0.out.kept B_0.out) Z0.out).mono ?_
  rintro e X0 ⟨b0, rfl, hf, bl⟩
  have B_1 := Lib.hid (Below.next B_0.out bl)
  have K1_1 := Lib.hid (K1_0.out.below bl)
  have K2_1 := Lib.hid (K2_0.out.below bl)
  have K3_1 := Lib.hid (K3_0.out.below bl)
  have S_1 := Lib.hid (Nat.lt_of_lt_of_le S_0.out bl.size)
  have O0_1 := Lib.hid (hf.base S_0.out)
  clear hf bl B_0 K1_0 K2_0 K3_0 S_0 
  obtain ⟨p10, p11, p12, p13, p14, p15, p16, p1l⟩ := K1_1.out.tpbox
  obtain ⟨p30, p31, p32, p33, p34, p35, p36, p3l⟩ := K3_1.out.tpbox
  obtain ⟨p20, p21, p22, p23, p24, p25, p26, p2l⟩ := K2_1.out.tpbox
  obtain ⟨f30, f31, f32, f33, f34, f35, f36⟩ := K3_1.out.tpfz
  obtain ⟨f20, f21, f22, f23, f24, f25, f26⟩ := K2_1.out.tpfz
  go_wp2_with fail
  refine bodyPost_ret (v := .agg #[.int .i64 kd, .int .i64 xa, .int .i64 xb, .float .f32 nu, .int .i64 rw, .int .i64 cl, .slice b0 zd.length zd.length]) (by simp [results, Try.results32, go_sem, p20, p21, p22, p23, p24, p25, p26]) rfl ⟨b0, rfl, ?_⟩
  clear p10 p11 p12 p13 p14 p15 p16 p1l p30 p31 p32 p33 p34 p35 p36 p3l p20 p21 p22 p23 p24 p25 p26 p2l f20 f21 f22 f23 f24 f25 f26 f30 f31 f32 f33 f34 f35 f36
  exact ⟨((((((((((O0_1.out.far (p := ⟨w.heap.size + 1 + 1, 4, none⟩) (by simp) (.int .i64 rw)).far (p := ⟨w.heap.size + 1 + 1, 5, none⟩) (by simp) (.int .i64 cl)).far (p := ⟨w.heap.size + 1 + 1, 6, none⟩) (by simp) (.slice b0 zd.length zd.length)).far (p := ⟨w.heap.size + 1, 0, none⟩) (by simp) (.int .i64 kd)).far (p := ⟨w.heap.size + 1, 1, none⟩) (by simp) (.int .i64 xa)).far (p := ⟨w.heap.size + 1, 2, none⟩) (by simp) (.int .i64 xb)).far (p := ⟨w.heap.size + 1, 3, none⟩) (by simp) (.float .f32 nu)).far (p := ⟨w.heap.size + 1, 4, none⟩) (by simp) (.int .i64 rw)).far (p := ⟨w.heap.size + 1, 5, none⟩) (by simp) (.int .i64 cl)).far (p := ⟨w.heap.size + 1, 6, none⟩) (by simp) (.slice b0 zd.length zd.length)).base (by omega), ((((((((((B_1.out.setCell (p := ⟨w.heap.size + 1 + 1, 4, none⟩) (by first | (simp; done) | (simp; omega)) (.int .i64 rw)).setCell (p := ⟨w.heap.size + 1 + 1, 5, none⟩) (by first | (simp; done) | (simp; omega)) (.int .i64 cl)).setCell (p := ⟨w.heap.size + 1 + 1, 6, none⟩) (by first | (simp; done) | (simp; omega)) (.slice b0 zd.length zd.length)).setCell (p := ⟨w.heap.size + 1, 0, none⟩) (by first | (simp; done) | (simp; omega)) (.int .i64 kd)).setCell (p := ⟨w.heap.size + 1, 1, none⟩) (by first | (simp; done) | (simp; omega)) (.int .i64 xa)).setCell (p := ⟨w.heap.size + 1, 2, none⟩) (by first | (simp; done) | (simp; omega)) (.int .i64 xb)).setCell (p := ⟨w.heap.size + 1, 3, none⟩) (by first | (simp; done) | (simp; omega)) (.float .f32 nu)).setCell (p := ⟨w.heap.size + 1, 4, none⟩) (by first | (simp; done) | (simp; omega)) (.int .i64 rw)).setCell (p := ⟨w.heap.size + 1, 5, none⟩) (by first | (simp; done) | (simp; omega)) (.int .i64 cl)).setCell (p := ⟨w.heap.size + 1, 6, none⟩) (by first | (simp; done) | (simp; omega)) (.slice b0 zd.length zd.length))⟩
set_option maxHeartbeats 1000000 in
theorem c_eqTp (kd : Int) (xa : Int) (xb : Int) (nu : Nat) (rw : Int) (cl : Int) (nu' : Nat) (a0 b0 : Option Addr) (c0 d0 : Nat) (zd zd' : List Nat) (w : World) (h0 : IsFloats .f32 w a0 zd.length c0 zd) (k0 : IsFloats .f32 w b0 zd'.length d0 zd') (q0 : zd.map (canon .f32) = zd'.map (canon .f32)) (qnu : canon .f32 nu = canon .f32 nu') :
    Calls Try.prog 34 #[.agg #[.int .i64 kd, .int .i64 xa, .int .i64 xb, .float .f32 nu, .int .i64 rw, .int .i64 cl, .slice a0 zd.length c0], .agg #[.int .i64 kd, .int .i64 xa, .int .i64 xb, .float .f32 nu', .int .i64 rw, .int .i64 cl, .slice b0 zd'.length d0]] w fun e w' => e = .returned (.bool true) ∧ Below w.heap.size w w' := by
  have H0 := Lib.hid h0
  have K0 := Lib.hid k0
  have Q0 := Lib.hid q0
  clear h0 k0 q0
  have Qnu := Lib.hid qnu
  clear qnu
  go_enter Try.func34, Try.ntmps34
  go_wp2_with fail
  have HL := Lib.hid (((Below.refl w.heap.size w).alloc (Nat.le_refl _) (.cells #[.int .i64 kd, .int .i64 xa, .int .i64 xb, .float .f32 nu, .int .i64 rw, .int .i64 cl, .slice a0 zd.length c0] 56)).alloc (by simp) (.cells #[.int .i64 kd, .int .i64 xa, .int .i64 xb, .float .f32 nu', .int .i64 rw, .int .i64 cl, .slice b0 zd'.length d0] 56))
  refine (c_sameFloat _ _ (cwide_same _ _ Qnu.out) _).mono ?_
  rintro e w1 ⟨rfl, n0, rfl⟩
  go_wp2_with fail
  refine (c_eqTensor rw cl a0 b0 c0 d0 zd zd' _ (H0.out.kept (below_drewN HL.out _)) (K0.out.kept (below_drewN HL.out _)) Q0.out).mono ?_
  rintro e w1 ⟨rfl, bl⟩
  have HB := Lib.hid (Below.next (below_drewN HL.out _) bl)
  clear bl
  go_wp2_with fail
  go_ret
  exact ⟨rfl, HB.out⟩
end Go.Proofs.Ytdgoladbkaldkaa
