/-
  Words for Layer by value: reading, copying, sizes, comparing, marking and looking again. Conditions: the cells can be read.
-/
import Derived.Test.YtlddonneccihiaaTyd
namespace Go.Proofs.Ytlddonneccihiaa
open Go.RowKit
set_option linter.unusedVariables false

structure LayP where
  k : Int
  i : Int
  o : Int
  ws : List Nat
  bs : List Nat
structure LayA where
  p : LayP
  a0 : Option Addr
  c0 : Nat
  a1 : Option Addr
  c1 : Nat
def LayA.cs (x : LayA) : List Cl := [.int x.p.k, .int x.p.i, .int x.p.o, flC x.a0 x.c0 x.p.ws, flC x.a1 x.c1 x.p.bs]
def LayA.cells (x : LayA) : Array Value := #[.int .i64 x.p.k, .int .i64 x.p.i, .int .i64 x.p.o, .slice x.a0 x.p.ws.length x.c0, .slice x.a1 x.p.bs.length x.c1]
def LayP.n (p : LayP) : Nat := p.ws.length + p.bs.length
def LayP.can (p : LayP) : LayP := { p with ws := p.ws.map (canon .f32), bs := p.bs.map (canon .f32) }
theorem LayA.vs_cs (x : LayA) : vs x.cs = x.cells.toList := rfl
theorem LayA.at_iff {w : World} {x : LayA} : AtL w x.cs ↔ IsFloats .f32 w x.a0 x.p.ws.length x.c0 x.p.ws ∧ IsFloats .f32 w x.a1 x.p.bs.length x.c1 x.p.bs := by
  simp only [LayA.cs, AtL, Cl.At, flC_at, true_and, and_true]
theorem LayA.own_iff {w : World} {B : Nat} {x : LayA} : OwnL w B x.cs ↔ OwnF w B x.a0 x.c0 x.p.ws ∧ OwnF w B x.a1 x.c1 x.p.bs := by
  simp only [LayA.cs, OwnL, Cl.Own, flC_own, true_and, and_true]
theorem LayA.bl_cs (x : LayA) : blL x.cs = (blk x.a0).toList ++ (blk x.a1).toList := by
  simp [LayA.cs, blL, Cl.bl, flC_bl]
theorem LayA.nodup {x : LayA} (h01 : ∀ g, blk x.a0 = some g → blk x.a1 ≠ some g) : (blL x.cs).Nodup := by
  rw [LayA.bl_cs]
  exact nodup2 _ _ h01
theorem LayA.cs_len (x : LayA) : x.cs.length = 5 := rfl
theorem LayA.typed {l : List Cl} (h : typedL [.int, .int, .int, .sl 26 1 [.f32], .sl 26 1 [.f32]] l) : ∃ x : LayA, l = x.cs := by
  simp only [typedL, Cl.typed.eq_1] at h
  obtain ⟨c0', l0', rfl, ⟨k, rfl⟩, c1', l1', rfl, ⟨i, rfl⟩, c2', l2', rfl, ⟨o, rfl⟩, c3', l3', rfl, h3, c4', l4', rfl, h4, rfl⟩ := h
  obtain ⟨a0, c0, ws, rfl⟩ := typed_f32s h3
  obtain ⟨a1, c1, bs, rfl⟩ := typed_f32s h4
  exact ⟨⟨⟨k, i, o, ws, bs⟩, a0, c0, a1, c1⟩, rfl⟩
theorem Blk.layfz {w : World} {g : Nat} {t : TypeId} {cs : Array Value} (h : Blk w g t cs) : w.frozen? ⟨g, 0, none⟩ = false ∧ w.frozen? ⟨g, 1, none⟩ = false ∧ w.frozen? ⟨g, 2, none⟩ = false ∧ w.frozen? ⟨g, 3, none⟩ = false ∧ w.frozen? ⟨g, 4, none⟩ = false :=
  ⟨h.frozen 0, h.frozen 1, h.frozen 2, h.frozen 3, h.frozen 4⟩
theorem Blk.laybox {w : World} {g : Nat} {t : TypeId} {v0 v1 v2 v3 v4 : Value} (h : Blk w g t #[v0, v1, v2, v3, v4]) : w.cell? ⟨g, 0, none⟩ = some v0 ∧ w.cell? ⟨g, 1, none⟩ = some v1 ∧ w.cell? ⟨g, 2, none⟩ = some v2 ∧ w.cell? ⟨g, 3, none⟩ = some v3 ∧ w.cell? ⟨g, 4, none⟩ = some v4 ∧ g < w.heap.size :=
  ⟨h.cell 0, h.cell 1, h.cell 2, h.cell 3, h.cell 4, h.lt⟩
theorem store_Lay {w : World} {g : Nat} {t : TypeId} {v0 v1 v2 v3 v4 u0 u1 u2 u3 u4 : Value} (h : Blk w g t #[v0, v1, v2, v3, v4]) :
    Blk (((((w.setCell ⟨g, 0, none⟩ u0).setCell ⟨g, 1, none⟩ u1).setCell ⟨g, 2, none⟩ u2).setCell ⟨g, 3, none⟩ u3).setCell ⟨g, 4, none⟩ u4) g t #[u0, u1, u2, u3, u4] ∧ w.grownBy (((((w.setCell ⟨g, 0, none⟩ u0).setCell ⟨g, 1, none⟩ u1).setCell ⟨g, 2, none⟩ u2).setCell ⟨g, 3, none⟩ u3).setCell ⟨g, 4, none⟩ u4) (some g) := by
  constructor
  · unfold Blk at h ⊢
    simp [World.setCell, Array.getElem?_modify, h]
  · have st : ∀ (w : World) (i : Nat) (u : Value), w.grownBy (w.setCell ⟨g, i, none⟩ u) (some g) := fun w i u =>
      ⟨rfl, rfl, rfl, by simp, fun k _ hk => Below.heap_setCell w ⟨g, i, none⟩ u k (fun e => hk (by simp [e]))⟩
    exact grown_set (grown_set (grown_set (grown_set (st w 0 u0) (st _ 1 u1)) (st _ 2 u2)) (st _ 3 u3)) (st _ 4 u4)
set_option maxRecDepth 100000 in
open Go.ChangeShapes Go.WideShapes Go.Deep in
theorem open_Lay {H : Type} {enc : TypeId × Value → H} {W : World} {base b0 : Nat} {re : Reach} {held : Bool} {v : Value} {d : DataW H} {p : List MemPlace}
    (hv : Value.okWide Try.prog W re b0 93 v) (h : DataW.Trod enc Try.prog W base (fun _ => true) held 93 v d p) :
    ∃ x : LayA, v = .agg x.cells ∧ AtL W x.cs := by
  obtain ⟨cs, rfl, hsz⟩ := okWide_struct Try.underlying93 hv
  obtain ⟨fuel, hf⟩ := h
  obtain ⟨l, e, ha, ht⟩ := opened 3 _ _ _ _ _ (show tyOf Try.prog 3 93 = some [.int, .int, .int, .sl 26 1 [.f32], .sl 26 1 [.f32]] by kernel_rfl) hf
  obtain ⟨x, rfl⟩ := LayA.typed ht
  refine ⟨x, ?_, ha⟩
  rw [LayA.vs_cs] at e
  simp only [Value.cells] at e
  rw [show cs = x.cells from (Array.toList_inj.1 e).symm]
theorem c_szLay (k : Int) (i : Int) (o : Int) (a0 a1 : Option Addr) (n0 n1 c0 c1 l r : Nat) (w : World) (h : n0 + n1 ≤ l) (hl : l ≤ 1048576) (hr : l - (n0 + n1) = r) : Calls Try.prog 64 #[.agg #[.int .i64 k, .int .i64 i, .int .i64 o, .slice a0 n0 c0, .slice a1 n1 c1], .int .i64 l] w fun e w' => e = .returned (.int .i64 (r : Int)) ∧ Below w.heap.size w w' := by
  obtain ⟨l0, e0⟩ : ∃ l', l - n0 = l' := ⟨_, rfl⟩
  obtain ⟨l1, e1⟩ : ∃ l', l0 - n1 = l' := ⟨_, rfl⟩
  have H0 := Lib.hid (show n0 ≤ l by omega)
  have E0 := Lib.hid e0
  have s0 : l0 ≤ 1048576 := by omega
  have p0 : (0 : Int) ≤ (l0 : Int) := by omega
  have H1 := Lib.hid (show n1 ≤ l0 by omega)
  have E1 := Lib.hid e1
  have s1 : l1 ≤ 1048576 := by omega
  have p1 : (0 : Int) ≤ (l1 : Int) := by omega
  have HR := Lib.hid (show r = l1 by omega)
  clear h hr e0 e1
  go_enter Try.func64, Try.ntmps64
  go_wp2_with fail
  refine (c_szFloats _ _ _ _ _ H0.out (by first | exact hl | omega)).mono ?_
  rintro e w' ⟨rfl, rfl⟩
  rw [E0.out]
  go_wp2_with fail
  refine (c_szFloats _ _ _ _ _ H1.out (by first | exact hl | omega)).mono ?_
  rintro e w' ⟨rfl, rfl⟩
  rw [E1.out]
  go_wp2_with fail
  go_ret
  exact ⟨ret_i (by rw [HR.out]), (Below.refl _ _).alloc (Nat.le_refl _) _⟩
theorem c_szLay_no (k : Int) (i : Int) (o : Int) (a0 a1 : Option Addr) (n0 n1 c0 c1 l : Nat) (w : World) (h : l < n0 + n1) (hl : l ≤ 1048576) (m0 : n0 ≤ 9223372036854775807) (m1 : n1 ≤ 9223372036854775807) : Calls Try.prog 64 #[.agg #[.int .i64 k, .int .i64 i, .int .i64 o, .slice a0 n0 c0, .slice a1 n1 c1], .int .i64 l] w fun e w' => e = .returned (.int .i64 (-1)) ∧ Below w.heap.size w w' := by
  by_cases t0 : n0 ≤ l
  · obtain ⟨l0, e0⟩ : ∃ l', l - n0 = l' := ⟨_, rfl⟩
    have H0 := Lib.hid t0
    have E0 := Lib.hid e0
    have s0 : l0 ≤ 1048576 := by omega
    have p0 : (0 : Int) ≤ (l0 : Int) := by omega
    have H1 := Lib.hid (show l0 < n1 by omega)
    clear h t0 e0
    go_enter Try.func64, Try.ntmps64
    go_wp2_with fail
    refine (c_szFloats _ _ _ _ _ H0.out (by first | exact hl | omega)).mono ?_
    rintro e w' ⟨rfl, rfl⟩
    rw [E0.out]
    go_wp2_with fail
    refine (c_szFloats_no _ _ _ _ _ H1.out (by first | exact hl | omega) m1).mono ?_
    rintro e w' ⟨rfl, rfl⟩
    go_wp2_with fail
    go_ret
    exact ⟨rfl, (Below.refl _ _).alloc (Nat.le_refl _) _⟩
  · skip
    have H0 := Lib.hid (show l < n0 by omega)
    clear h t0
    go_enter Try.func64, Try.ntmps64
    go_wp2_with fail
    refine (c_szFloats_no _ _ _ _ _ H0.out (by first | exact hl | omega) m0).mono ?_
    rintro e w' ⟨rfl, rfl⟩
    go_wp2_with fail
    go_ret
    exact ⟨rfl, (Below.refl _ _).alloc (Nat.le_refl _) _⟩
def RetLay (k : Int) (i : Int) (o : Int) (ws : List Nat) (bs : List Nat) (w : World) (e : Ending) (w' : World) : Prop :=
  ∃ b0 b1, e = .returned (.agg #[.int .i64 k, .int .i64 i, .int .i64 o, .slice b0 ws.length ws.length, .slice b1 bs.length bs.length]) ∧ OwnF w' w.heap.size b0 ws.length ws ∧ OwnF w' w.heap.size b1 bs.length bs ∧ (∀ g, blk b0 = some g → blk b1 ≠ some g) ∧ Below w.heap.size w w'
set_option maxRecDepth 100000 in
set_option maxHeartbeats 1000000 in
theorem c_toLay (k : Int) (i : Int) (o : Int) (a0 a1 : Option Addr) (c0 c1 : Nat) (ws : List Nat) (bs : List Nat) (w : World) (h0 : IsFloats .f32 w a0 ws.length c0 ws) (z0 : ws.length ≤ 1048576) (h1 : IsFloats .f32 w a1 bs.length c1 bs) (z1 : bs.length ≤ 1048576) : Calls Try.prog 66 #[.agg #[.int .i64 k, .int .i64 i, .int .i64 o, .slice a0 ws.length c0, .slice a1 bs.length c1]] w (RetLay k i o ws bs w) := by
  have H0 := Lib.hid h0
  have Z0 := Lib.hid z0
  have H1 := Lib.hid h1
  have Z1 := Lib.hid z1
  clear h0 z0 h1 z1
  go_enter Try.func66, Try.ntmps66
  go_wp2_with fail
  have b0 := (((Below.refl w.heap.size w).alloc (Nat.le_refl _) (.cells #[.int .i64 k, .int .i64 i, .int .i64 o, .slice a0 ws.length c0, .slice a1 bs.length c1] 93)).alloc (by simp) (.cells #[.int .i64 0, .int .i64 0, .int .i64 0, .slice none 0 0, .slice none 0 0] 82)).alloc (by simp; omega) (.cells #[.int .i64 k, .int .i64 i, .int .i64 o, .slice none 0 0, .slice none 0 0] 82)
  have k1 := (((Blk.new w 93 #[.int .i64 k, .int .i64 i, .int .i64 o, .slice a0 ws.length c0, .slice a1 bs.length c1]).below ((Below.refl _ _).alloc (Nat.le_refl _) (.cells #[.int .i64 0, .int .i64 0, .int .i64 0, .slice none 0 0, .slice none 0 0] 82)))).below ((Below.refl _ _).alloc (Nat.le_refl _) (.cells #[.int .i64 k, .int .i64 i, .int .i64 o, .slice none 0 0, .slice none 0 0] 82))
  have k2 := (Blk.new (w.alloc (.cells #[.int .i64 k, .int .i64 i, .int .i64 o, .slice a0 ws.length c0, .slice a1 bs.length c1] 93)) 82 #[.int .i64 0, .int .i64 0, .int .i64 0, .slice none 0 0, .slice none 0 0]).below ((Below.refl _ _).alloc (Nat.le_refl _) (.cells #[.int .i64 k, .int .i64 i, .int .i64 o, .slice none 0 0, .slice none 0 0] 82))
  have k3 := Blk.new ((w.alloc (.cells #[.int .i64 k, .int .i64 i, .int .i64 o, .slice a0 ws.length c0, .slice a1 bs.length c1] 93)).alloc (.cells #[.int .i64 0, .int .i64 0, .int .i64 0, .slice none 0 0, .slice none 0 0] 82)) 82 #[.int .i64 k, .int .i64 i, .int .i64 o, .slice none 0 0, .slice none 0 0]
  simp only [World.size_alloc] at k2 k3
  have sz : ((w.alloc (.cells #[.int .i64 k, .int .i64 i, .int .i64 o, .slice a0 ws.length c0, .slice a1 bs.length c1] 93)).alloc (.cells #[.int .i64 0, .int .i64 0, .int .i64 0, .slice none 0 0, .slice none 0 0] 82)).heap.size + 1 = w.heap.size + 1 + 1 + 1 := by simp
  generalize ((w.alloc (.cells #[.int .i64 k, .int .i64 i, .int .i64 o, .slice a0 ws.length c0, .slice a1 bs.length c1] 93)).alloc (.cells #[.int .i64 0, .int .i64 0, .int .i64 0, .slice none 0 0, .slice none 0 0] 82)).alloc (.cells #[.int .i64 k, .int .i64 i, .int .i64 o, .slice none 0 0, .slice none 0 0] 82) = W0 at b0 k1 k2 k3 ⊢
  have s0 : w.heap.size + 1 + 1 < W0.heap.size := k3.lt
  have B_0 := Lib.hid b0
  have K1_0 := Lib.hid k1
  have K2_0 := Lib.hid k2
  have K3_0 := Lib.hid k3
  have S_0 := Lib.hid s0
  clear b0 k1 k2 k3 sz s0
  refine (c_toFloats _ _ _ ws _ (H0.out.kept B_0.out) Z0.out).mono ?_
  rintro e X0 ⟨b0, rfl, hf, bl⟩
  have B_1 := Lib.hid (Below.next B_0.out bl)
  have K1_1 := Lib.hid (K1_0.out.below bl)
  have K2_1 := Lib.hid (K2_0.out.below bl)
  have K3_1 := Lib.hid (K3_0.out.below bl)
  have S_1 := Lib.hid (Nat.lt_of_lt_of_le S_0.out bl.size)
  have O0_1 := Lib.hid (hf.base S_0.out)
  clear hf bl B_0 K1_0 K2_0 K3_0 S_0 
  obtain ⟨p10, p11, p12, p13, p14, p1l⟩ := K1_1.out.laybox
  obtain ⟨p30, p31, p32, p33, p34, p3l⟩ := K3_1.out.laybox
  obtain ⟨f30, f31, f32, f33, f34⟩ := K3_1.out.layfz
  go_wp2_with fail
  clear p10 p11 p12 p13 p14 p1l p30 p31 p32 p33 p34 p3l f30 f31 f32 f33 f34
  have B_2 := Lib.hid ((B_1.out.setCell (p := ⟨w.heap.size + 1 + 1, 3, none⟩) (by first | (simp; done) | (simp; omega)) (.slice b0 ws.length ws.length)))
  have k3 : Blk (X0.setCell ⟨w.heap.size + 1 + 1, 3, none⟩ (.slice b0 ws.length ws.length)) (w.heap.size + 1 + 1) 82 #[.int .i64 k, .int .i64 i, .int .i64 o, .slice b0 ws.length ws.length, .slice none 0 0] := by
    have h := K3_1.out
    unfold Blk at h ⊢
    simp [World.setCell, Array.getElem?_modify, h]
  have hne : ∀ k, k ≠ w.heap.size + 1 + 1 → (X0.setCell ⟨w.heap.size + 1 + 1, 3, none⟩ (.slice b0 ws.length ws.length)).heap[k]? = X0.heap[k]? := fun k hk => by simp [World.setCell, Array.getElem?_modify, Ne.symm hk]
  have k1 : Blk (X0.setCell ⟨w.heap.size + 1 + 1, 3, none⟩ (.slice b0 ws.length ws.length)) w.heap.size 93 #[.int .i64 k, .int .i64 i, .int .i64 o, .slice a0 ws.length c0, .slice a1 bs.length c1] := (hne _ (by omega)).trans K1_1.out
  have k2 : Blk (X0.setCell ⟨w.heap.size + 1 + 1, 3, none⟩ (.slice b0 ws.length ws.length)) (w.heap.size + 1) 82 #[.int .i64 0, .int .i64 0, .int .i64 0, .slice none 0 0, .slice none 0 0] := (hne _ (by omega)).trans K2_1.out
  have s0 : (X0.setCell ⟨w.heap.size + 1 + 1, 3, none⟩ (.slice b0 ws.length ws.length)).heap.size = X0.heap.size := by simp
  have o0 : OwnF (X0.setCell ⟨w.heap.size + 1 + 1, 3, none⟩ (.slice b0 ws.length ws.length)) (w.heap.size + 1 + 1 + 1) b0 ws.length ws := (O0_1.out.far (p := ⟨w.heap.size + 1 + 1, 3, none⟩) (by simp) (.slice b0 ws.length ws.length))
  generalize (X0.setCell ⟨w.heap.size + 1 + 1, 3, none⟩ (.slice b0 ws.length ws.length)) = V1 at B_2 k3 k1 k2 s0 o0 ⊢
  have K1_2 := Lib.hid k1
  have K2_2 := Lib.hid k2
  have K3_2 := Lib.hid k3
  have S_2 := Lib.hid (show w.heap.size + 1 + 1 < V1.heap.size by rw [s0]; exact S_1.out)
  have O0_2 := Lib.hid o0
  clear k1 k2 k3 s0 hne B_1 K1_1 K2_1 K3_1 S_1 o0 O0_1
  refine (c_toFloats _ _ _ bs _ (H1.out.kept B_2.out) Z1.out).mono ?_
  rintro e X1 ⟨b1, rfl, hf, bl⟩
  have B_3 := Lib.hid (Below.next B_2.out bl)
  have K1_3 := Lib.hid (K1_2.out.below bl)
  have K2_3 := Lib.hid (K2_2.out.below bl)
  have K3_3 := Lib.hid (K3_2.out.below bl)
  have S_3 := Lib.hid (Nat.lt_of_lt_of_le S_2.out bl.size)
  have O0_3 := Lib.hid (O0_2.out.kept bl)
  have A01 := Lib.hid (O0_2.out.new_apart hf)
  have O1_3 := Lib.hid (hf.base S_2.out)
  clear hf bl B_2 K1_2 K2_2 K3_2 S_2 O0_2
  obtain ⟨p10, p11, p12, p13, p14, p1l⟩ := K1_3.out.laybox
  obtain ⟨p30, p31, p32, p33, p34, p3l⟩ := K3_3.out.laybox
  obtain ⟨p20, p21, p22, p23, p24, p2l⟩ := K2_3.out.laybox
  obtain ⟨f30, f31, f32, f33, f34⟩ := K3_3.out.layfz
  obtain ⟨f20, f21, f22, f23, f24⟩ := K2_3.out.layfz
  go_wp2_with fail
  refine bodyPost_ret (v := .agg #[.int .i64 k, .int .i64 i, .int .i64 o, .slice b0 ws.length ws.length, .slice b1 bs.length bs.length]) (by simp [results, Try.results66, go_sem, p20, p21, p22, p23, p24]) rfl ⟨b0, b1, rfl, ?_⟩
  clear p10 p11 p12 p13 p14 p1l p30 p31 p32 p33 p34 p3l p20 p21 p22 p23 p24 p2l f20 f21 f22 f23 f24 f30 f31 f32 f33 f34
  exact ⟨((((((O0_3.out.far (p := ⟨w.heap.size + 1 + 1, 4, none⟩) (by simp) (.slice b1 bs.length bs.length)).far (p := ⟨w.heap.size + 1, 0, none⟩) (by simp) (.int .i64 k)).far (p := ⟨w.heap.size + 1, 1, none⟩) (by simp) (.int .i64 i)).far (p := ⟨w.heap.size + 1, 2, none⟩) (by simp) (.int .i64 o)).far (p := ⟨w.heap.size + 1, 3, none⟩) (by simp) (.slice b0 ws.length ws.length)).far (p := ⟨w.heap.size + 1, 4, none⟩) (by simp) (.slice b1 bs.length bs.length)).base (by omega), ((((((O1_3.out.far (p := ⟨w.heap.size + 1 + 1, 4, none⟩) (by simp) (.slice b1 bs.length bs.length)).far (p := ⟨w.heap.size + 1, 0, none⟩) (by simp) (.int .i64 k)).far (p := ⟨w.heap.size + 1, 1, none⟩) (by simp) (.int .i64 i)).far (p := ⟨w.heap.size + 1, 2, none⟩) (by simp) (.int .i64 o)).far (p := ⟨w.heap.size + 1, 3, none⟩) (by simp) (.slice b0 ws.length ws.length)).far (p := ⟨w.heap.size + 1, 4, none⟩) (by simp) (.slice b1 bs.length bs.length)).base (by omega), A01.out, ((((((B_3.out.setCell (p := ⟨w.heap.size + 1 + 1, 4, none⟩) (by first | (simp; done) | (simp; omega)) (.slice b1 bs.length bs.length)).setCell (p := ⟨w.heap.size + 1, 0, none⟩) (by first | (simp; done) | (simp; omega)) (.int .i64 k)).setCell (p := ⟨w.heap.size + 1, 1, none⟩) (by first | (simp; done) | (simp; omega)) (.int .i64 i)).setCell (p := ⟨w.heap.size + 1, 2, none⟩) (by first | (simp; done) | (simp; omega)) (.int .i64 o)).setCell (p := ⟨w.heap.size + 1, 3, none⟩) (by first | (simp; done) | (simp; omega)) (.slice b0 ws.length ws.length)).setCell (p := ⟨w.heap.size + 1, 4, none⟩) (by first | (simp; done) | (simp; omega)) (.slice b1 bs.length bs.length))⟩
set_option maxHeartbeats 1000000 in
theorem c_eqLay (k : Int) (i : Int) (o : Int)  (a0 b0 a1 b1 : Option Addr) (c0 d0 c1 d1 : Nat) (ws ws' : List Nat) (bs bs' : List Nat) (w : World) (h0 : IsFloats .f32 w a0 ws.length c0 ws) (k0 : IsFloats .f32 w b0 ws'.length d0 ws') (q0 : ws.map (canon .f32) = ws'.map (canon .f32)) (h1 : IsFloats .f32 w a1 bs.length c1 bs) (k1 : IsFloats .f32 w b1 bs'.length d1 bs') (q1 : bs.map (canon .f32) = bs'.map (canon .f32)) :
    Calls Try.prog 70 #[.agg #[.int .i64 k, .int .i64 i, .int .i64 o, .slice a0 ws.length c0, .slice a1 bs.length c1], .agg #[.int .i64 k, .int .i64 i, .int .i64 o, .slice b0 ws'.length d0, .slice b1 bs'.length d1]] w fun e w' => e = .returned (.bool true) ∧ Below w.heap.size w w' := by
  have H0 := Lib.hid h0
  have K0 := Lib.hid k0
  have Q0 := Lib.hid q0
  clear h0 k0 q0
  have H1 := Lib.hid h1
  have K1 := Lib.hid k1
  have Q1 := Lib.hid q1
  clear h1 k1 q1
  go_enter Try.func70, Try.ntmps70
  go_wp2_with fail
  have HL := Lib.hid (((Below.refl w.heap.size w).alloc (Nat.le_refl _) (.cells #[.int .i64 k, .int .i64 i, .int .i64 o, .slice a0 ws.length c0, .slice a1 bs.length c1] 82)).alloc (by simp) (.cells #[.int .i64 k, .int .i64 i, .int .i64 o, .slice b0 ws'.length d0, .slice b1 bs'.length d1] 82))
  refine (c_eqFloats _ _ _ _ ws ws' _ (H0.out.kept HL.out) (K0.out.kept HL.out) Q0.out).mono ?_
  rintro e w1 ⟨rfl, n0, rfl⟩
  go_wp2_with fail
  refine (c_eqFloats _ _ _ _ bs bs' _ (H1.out.kept (below_drewN HL.out _)) (K1.out.kept (below_drewN HL.out _)) Q1.out).mono ?_
  rintro e w1 ⟨rfl, n1, rfl⟩
  go_wp2_with fail
  go_ret
  exact ⟨rfl, below_drewN HL.out _⟩
end Go.Proofs.Ytlddonneccihiaa
