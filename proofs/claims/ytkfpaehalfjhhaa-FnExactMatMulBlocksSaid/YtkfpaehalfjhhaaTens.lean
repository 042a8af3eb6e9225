/-
  The law's helpers on tensors by value: copies, sizes, comparing, marking and looking again. Conditions: the elements can be read.
-/
import Derived.Test.YtkfpaehalfjhhaaTen
import Derived.Lib.SmallJoins
import Derived.Deep.RegionHeld3
import Derived.Deep.DeepCutAuto
namespace Go.Proofs.Ytkfpaehalfjhhaa
open Go.RowKit

/-- facts on a block that is known whole -/
def Blk (w : World) (g : Nat) (t : TypeId) (cs : Array Value) : Prop := w.heap[g]? = some (.cells cs t (0, 0))
theorem Blk.lt {w : World} {g : Nat} {t : TypeId} {cs : Array Value} (h : Blk w g t cs) : g < w.heap.size := by
  rcases Nat.lt_or_ge g w.heap.size with hlt | hge
  · exact hlt
  · unfold Blk at h; rw [Array.getElem?_eq_none hge] at h; cases h
theorem Blk.cell {w : World} {g : Nat} {t : TypeId} {cs : Array Value} (h : Blk w g t cs) (i : Nat) : w.cell? ⟨g, i, none⟩ = cs[i]? := cell_of_row w g i cs t (0, 0) h
theorem Blk.frozen {w : World} {g : Nat} {t : TypeId} {cs : Array Value} (h : Blk w g t cs) (i : Nat) : w.frozen? ⟨g, i, none⟩ = false := by
  unfold Blk at h
  simp [World.frozen?, h]
theorem Blk.below {w w' : World} {g : Nat} {t : TypeId} {cs : Array Value} (h : Blk w g t cs) (hb : Below w.heap.size w w') : Blk w' g t cs := (hb.block g h.lt).trans h
theorem Blk.new (w : World) (t : TypeId) (cs : Array Value) : Blk (w.alloc (.cells cs t)) w.heap.size t cs := heap_alloc_new w _

theorem bcell {W w1 : World} (hb : Below W.heap.size W w1) : (∀ b o, b < W.heap.size → w1.cell? ⟨b, o, none⟩ = W.cell? ⟨b, o, none⟩) ∧ (∀ b o, b < W.heap.size → w1.frozen? ⟨b, o, none⟩ = W.frozen? ⟨b, o, none⟩) :=
  ⟨fun b o h => hb.cell (p := ⟨b, o, none⟩) h, fun b o h => hb.frozen (p := ⟨b, o, none⟩) h⟩
theorem OwnF.far {w : World} {B : Nat} {a : Option Addr} {cap : Nat} {ys : List Nat} (h : OwnF w B a cap ys) {p : Addr} (hp : p.block < B) (u : Value) : OwnF (w.setCell p u) B a cap ys := ⟨ownsRow_setCell_below h.1 hp u, h.2⟩
theorem tb {w : World} {g : Nat} {t : TypeId} {x y z : Value} (h : Blk w g t #[x, y, z]) : w.cell? ⟨g, 0, none⟩ = some x ∧ w.cell? ⟨g, 1, none⟩ = some y ∧ w.cell? ⟨g, 2, none⟩ = some z ∧ g < w.heap.size := ⟨h.cell 0, h.cell 1, h.cell 2, h.lt⟩
theorem Blk.apart {w w' : World} {g : Nat} {t : TypeId} {cs : Array Value} {B : Nat} {a : Option Addr} {cap : Nat} {ys : List Nat} (h : Blk w g t cs) (hg : w.grownBy w' (blk a)) (ho : OwnF w B a cap ys) (ht : t ≠ 46) : Blk w' g t cs := by
  refine (hg.block g h.lt ?_).trans h
  intro e
  rcases ho.1.2 with ⟨hv, _⟩ | ⟨g', c, cur, hv, _, hh, _⟩
  · simp only [Value.slice.injEq] at hv
    rw [hv.1] at e
    cases e
  · simp only [Value.slice.injEq] at hv
    rw [hv.1] at e
    simp only [blk, Option.map_some, Option.some.injEq] at e
    subst e
    unfold Blk at h
    rw [h] at hh
    simp only [Option.some.injEq, Obj.cells.injEq] at hh
    exact ht hh.2.1

theorem Blk.off {w w' : World} {g g' : Nat} {t : TypeId} {cs : Array Value} (h : Blk w g t cs) (hg : w.grownBy w' (some g')) (hne : g ≠ g') : Blk w' g t cs := (hg.block g h.lt (fun e => hne (by injection e))).trans h
theorem OwnF.off {w w' : World} {B g : Nat} {a : Option Addr} {cap : Nat} {ys : List Nat} {t : TypeId} {cs : Array Value} (h : OwnF w B a cap ys) (hg : w.grownBy w' (some g)) (hb : Blk w g t cs) (ht : t ≠ 46) : OwnF w' B a cap ys := by
  refine ⟨h.1.kept hg ?_, h.2⟩
  rcases h.1.2 with ⟨hv, _⟩ | ⟨g', c, cur, hv, _, hh, _⟩
  · rw [hv]; exact .inl rfl
  · rw [hv]
    refine .inr fun e => ?_
    simp only [Value.ownBlock, Option.some.injEq] at e
    subst e
    unfold Blk at hb
    rw [hb] at hh
    simp only [Option.some.injEq, Obj.cells.injEq] at hh
    exact ht hh.2.1
theorem Below.at_ {W w w' : World} {g : Nat} (h : Below W.heap.size W w) (hg : w.grownBy w' (some g)) (hB : W.heap.size ≤ g) : Below W.heap.size W w' := h.grown hg h.size (fun k hk => by injection hk with hk; omega)
theorem tbf {w : World} {g : Nat} {t : TypeId} {cs : Array Value} (h : Blk w g t cs) : w.frozen? ⟨g, 0, none⟩ = false ∧ w.frozen? ⟨g, 1, none⟩ = false ∧ w.frozen? ⟨g, 2, none⟩ = false := ⟨h.frozen 0, h.frozen 1, h.frozen 2⟩
theorem store3 {w : World} {g : Nat} {t : TypeId} {x y z x' y' z' : Value} (h : Blk w g t #[x, y, z]) :
    Blk (((w.setCell ⟨g, 0, none⟩ x').setCell ⟨g, 1, none⟩ y').setCell ⟨g, 2, none⟩ z') g t #[x', y', z'] ∧ w.grownBy (((w.setCell ⟨g, 0, none⟩ x').setCell ⟨g, 1, none⟩ y').setCell ⟨g, 2, none⟩ z') (some g) := by
  constructor
  · unfold Blk at h ⊢
    simp [World.setCell, Array.getElem?_modify, h]
  · have st : ∀ (w : World) (i : Nat) (u : Value), w.grownBy (w.setCell ⟨g, i, none⟩ u) (some g) := fun w i u =>
      ⟨rfl, rfl, rfl, by simp, fun k _ hk => Below.heap_setCell w ⟨g, i, none⟩ u k (fun e => hk (by simp [e]))⟩
    exact grown_set (grown_set (st w 0 x') (st _ 1 y')) (st _ 2 z')

/-! what functions return -/
/-- a tensor and ok -/
def RetT (R C : Int) (b : Bool) (zs : List Nat) (w : World) (e : Ending) (w' : World) : Prop :=
  ∃ a cap ys, e = .returned (.tuple #[.agg #[.int .i64 R, .int .i64 C, .slice a ys.length cap], .bool b]) ∧ OwnF w' w.heap.size a cap ys ∧ ys.map (canon .f32) = zs ∧ Below w.heap.size w w'
/-- a list and ok -/
def RetL (b : Bool) (zs : List Nat) (w : World) (e : Ending) (w' : World) : Prop :=
  ∃ a cap ys, e = .returned (.tuple #[.slice a ys.length cap, .bool b]) ∧ OwnF w' w.heap.size a cap ys ∧ ys.map (canon .f32) = zs ∧ Below w.heap.size w w'
/-- behind a call whose result is stored -/
def CutT (W : World) (R C : Int) (b : Bool) (zs : List Nat) (K : World → Prop) (s t : Value) (wx : World) : Prop :=
  ∃ g a cap ys, s = .pointer (some ⟨g, 0, none⟩) ∧ t = .bool b ∧ Blk wx g 26 #[.int .i64 R, .int .i64 C, .slice a ys.length cap] ∧ OwnF wx W.heap.size a cap ys ∧ ys.map (canon .f32) = zs ∧ Below W.heap.size W wx ∧ K wx
def RetB (b : Bool) (w : World) (e : Ending) (w' : World) : Prop := e = .returned (.bool b) ∧ Below w.heap.size w w'
def RetFb (x : Nat) (b : Bool) (w : World) (e : Ending) (w' : World) : Prop := ∃ r, canon .f32 r = x ∧ e = .returned (.tuple #[.float .f32 r, .bool b]) ∧ Below w.heap.size w w'
def RetDb (x : Nat) (b : Bool) (w : World) (e : Ending) (w' : World) : Prop := ∃ r, canon .f64 r = x ∧ e = .returned (.tuple #[.float .f64 r, .bool b]) ∧ Below w.heap.size w w'
theorem ret_agg {v v' : Value} (h : v = v') : Ending.returned v = .returned v' := by rw [h]

theorem grown_step {w w' : World} {o : Obj} {r : Option Nat} (h : (w.alloc o).grownBy w' r) : w.grownBy w' r :=
  ⟨h.os, h.tape, h.output, Nat.le_trans (by simp) h.size, fun k hk hne => (h.block k (by simp; omega) hne).trans (Below.heap_alloc w o k hk)⟩
theorem quiet_left {P : Program} {f : FuncId} {args : Array Value} {w : World} {n : Nat} {v : Value}
    (h : Calls P f args (w.drewN n) fun e w' => e = .returned v ∧ w.drewN n = w') : Calls P f args (w.drewN n) fun e w'' => e = .returned v ∧ ∃ m, w'' = w.drewN m :=
  h.mono fun _ _ ⟨he, hm⟩ => ⟨he, n, hm.symm⟩
theorem quiet_drawn {P : Program} {f : FuncId} {args : Array Value} {w : World} {n : Nat} {v : Value}
    (h : Calls P f args (w.drewN n) fun e w' => e = .returned v ∧ Drawn (w.drewN n) w') : Calls P f args (w.drewN n) fun e w'' => e = .returned v ∧ ∃ m, w'' = w.drewN m :=
  h.mono fun _ _ ⟨he, m, hm⟩ => ⟨he, n + m, by rw [hm, World.drewN_drewN]⟩
open Go.ChangeShapes Go.WideShapes Go.Deep in
set_option maxRecDepth 100000 in
/-- a tensor that came in -/
theorem open_tensor {H : Type} {enc : TypeId × Value → H} {W : World} {base b0 : Nat} {re : Reach} {held : Bool} {v : Value} {d : DataW H} {p : List MemPlace}
    (hv : Value.okWide Try.prog W re b0 24 v) (h : DataW.Trod enc Try.prog W base (fun _ => true) held 24 v d p) :
    ∃ (r c : Int) (a : Option Addr) (len cap : Nat) (zs : List Nat), v = .agg #[.int .i64 r, .int .i64 c, .slice a len cap] ∧ IsFloats .f32 W a len cap zs ∧ (Lit.int .i64 r).wf = true ∧ (Lit.int .i64 c).wf = true := by
  obtain ⟨v0, v1, v2, y0, y1, y2, n, rfl, _, _, h0, h1, h2⟩ := Joins.open_agg3 Try.underlying24 (by kernel_rfl) (by kernel_rfl) hv h
  obtain ⟨r, e0, _, wr⟩ := DataW.trod_int Try.underlying2 h0
  obtain ⟨c, e1, _, wc⟩ := DataW.trod_int Try.underlying2 h1
  simp only [List.cons.injEq, and_true] at e0 e1
  subst e0 e1
  have hs : ∃ a len cap, v2 = .slice a len cap := by
    rcases open_slice1 Try.underlying22 (by kernel_rfl) h2 with ⟨e, _⟩ | ⟨x, l, c', m, n', V, D, Pl, e, _⟩
    · simp only [List.cons.injEq, and_true] at e
      exact ⟨_, _, _, e⟩
    · simp only [List.cons.injEq, and_true] at e
      exact ⟨_, _, _, e⟩
  obtain ⟨a, len, cap, rfl⟩ := hs
  obtain ⟨zs, hz⟩ := isFloats_of (k := .f32) (d := y2.1) (ps := y2.2) Try.underlying22 Try.underlying46 (by kernel_rfl) ⟨n, by simpa [Value.cells] using h2⟩
  exact ⟨r, c, a, len, cap, zs, rfl, hz, wr, wc⟩
theorem c_szFloats (a : Option Addr) (n cap l : Nat) (w : World) (h : n ≤ l) (hl : l ≤ 1048576) : Calls Try.prog 45 #[.slice a n cap, .int .i64 l] w fun e w' => e = .returned (.int .i64 ((l - n : Nat) : Int)) ∧ w = w' := by
  have h1 : (n : Int) ≤ (l : Int) := by omega
  go_enter Try.func45, Try.ntmps45
  go_wp2
  go_ret
  exact ⟨ret_i (by omega), rfl⟩
theorem c_szFloats_no (a : Option Addr) (n cap l : Nat) (w : World) (h : l < n) (hl : l ≤ 1048576) (hn : n ≤ 9223372036854775807) : Calls Try.prog 45 #[.slice a n cap, .int .i64 l] w fun e w' => e = .returned (.int .i64 (-1)) ∧ w = w' := by
  have h1 : (l : Int) < (n : Int) := by omega
  go_enter Try.func45, Try.ntmps45
  go_wp2
  go_ret
  exact ⟨rfl, rfl⟩
theorem c_szTensor (r c : Int) (a : Option Addr) (n cap l : Nat) (w : World) (h : n ≤ l) (hl : l ≤ 1048576) : Calls Try.prog 9 #[.agg #[.int .i64 r, .int .i64 c, .slice a n cap], .int .i64 l] w fun e w' => e = .returned (.int .i64 ((l - n : Nat) : Int)) ∧ Below w.heap.size w w' := by
  have H := Lib.hid h
  obtain ⟨m, hm⟩ : ∃ m, l - n = m := ⟨_, rfl⟩
  have HM := Lib.hid hm
  have hm1 : (0 : Int) ≤ (m : Int) := by omega
  clear h hm
  go_enter Try.func9, Try.ntmps9
  go_wp2_with (go_at_call 45; refine (c_szFloats _ _ _ _ _ H.out hl).mono ?_; rintro e w' ⟨rfl, rfl⟩; rw [HM.out])
  go_ret
  exact ⟨ret_i (by rw [HM.out]), (Below.refl _ _).alloc (Nat.le_refl _) _⟩
theorem c_szTensor_no (r c : Int) (a : Option Addr) (n cap l : Nat) (w : World) (h : l < n) (hl : l ≤ 1048576) (hn : n ≤ 9223372036854775807) : Calls Try.prog 9 #[.agg #[.int .i64 r, .int .i64 c, .slice a n cap], .int .i64 l] w fun e w' => e = .returned (.int .i64 (-1)) ∧ Below w.heap.size w w' := by
  have H := Lib.hid h
  clear h
  go_enter Try.func9, Try.ntmps9
  go_wp2_with (go_at_call 45; refine (c_szFloats_no _ _ _ _ _ H.out hl hn).mono ?_; rintro e w' ⟨rfl, rfl⟩)
  go_ret
  exact ⟨rfl, (Below.refl _ _).alloc (Nat.le_refl _) _⟩

theorem c_szTensor' (r c : Int) (a : Option Addr) (n cap l m : Nat) (w : World) (h : n ≤ l) (hl : l ≤ 1048576) (hm : l - n = m) : Calls Try.prog 9 #[.agg #[.int .i64 r, .int .i64 c, .slice a n cap], .int .i64 l] w fun e w' => e = .returned (.int .i64 (m : Int)) ∧ Below w.heap.size w w' := by
  subst hm
  exact c_szTensor r c a n cap l w h hl
def RetTen (r c : Int) (zs : List Nat) (w : World) (e : Ending) (w' : World) : Prop :=
  ∃ a, e = .returned (.agg #[.int .i64 r, .int .i64 c, .slice a zs.length zs.length]) ∧ OwnF w' w.heap.size a zs.length zs ∧ Below w.heap.size w w'
set_option maxRecDepth 100000 in
set_option maxHeartbeats 400000 in
theorem c_toTensor (r c : Int) (a : Option Addr) (len cap : Nat) (zs : List Nat) (w : World) (h : IsFloats .f32 w a len cap zs) (hl : len ≤ 1048576) : Calls Try.prog 11 #[.agg #[.int .i64 r, .int .i64 c, .slice a len cap]] w (RetTen r c zs w) := by
  have HI := Lib.hid h
  clear h
  go_enter Try.func11, Try.ntmps11
  go_wp2_with fail
  refine (c_toFloats _ _ _ zs _ (HI.out.kept ((((Below.refl _ _).alloc (Nat.le_refl _) _).alloc (by simp) _).alloc (by simp; omega) _)) hl).mono ?_
  rintro e w1 ⟨b, rfl, hf, hb⟩
  have HF := Lib.hid hf
  have HB := Lib.hid hb
  obtain ⟨hc1, hc2⟩ := bcell hb
  have hz := hb.size
  clear hf hb
  go_wp2
  refine bodyPost_ret (v := .agg #[.int .i64 r, .int .i64 c, .slice b zs.length zs.length]) (by simp [results, Try.results11, go_sem, hc1]) rfl ⟨b, rfl, ?_, ?_⟩
  · have h1 := HF.out.far (p := ⟨w.heap.size + 1 + 1, 2, none⟩) (by simp) (.slice b zs.length zs.length)
    have h2 := h1.far (p := ⟨w.heap.size + 1, 0, none⟩) (by simp) (.int .i64 r)
    have h3 := h2.far (p := ⟨w.heap.size + 1, 1, none⟩) (by simp) (.int .i64 c)
    exact (h3.far (p := ⟨w.heap.size + 1, 2, none⟩) (by simp) (.slice b zs.length zs.length)).base (by simp; omega)
  · exact (((((((((Below.refl _ _).alloc (Nat.le_refl _) _).alloc (by simp) _).alloc (by simp; omega) _).trans (HB.out.mono (by simp; omega))).setCell (by simp; omega) _).setCell (by simp) _).setCell (by simp) _).setCell (by simp) _)
set_option maxHeartbeats 400000 in
theorem c_eqTensor (r c : Int) (a b : Option Addr) (ca cb : Nat) (xs ys : List Nat) (w : World) (ha : IsFloats .f32 w a xs.length ca xs) (hb : IsFloats .f32 w b ys.length cb ys) (hc : xs.map (canon .f32) = ys.map (canon .f32)) :
    Calls Try.prog 13 #[.agg #[.int .i64 r, .int .i64 c, .slice a xs.length ca], .agg #[.int .i64 r, .int .i64 c, .slice b ys.length cb]] w fun e w' => e = .returned (.bool true) ∧ Below w.heap.size w w' := by
  have HA := Lib.hid ha
  have HB := Lib.hid hb
  have HC := Lib.hid hc
  clear ha hb hc
  go_enter Try.func13, Try.ntmps13
  go_wp2_with fail
  have HL := Lib.hid (((Below.refl w.heap.size w).alloc (Nat.le_refl _) (.cells #[.int .i64 r, .int .i64 c, .slice a xs.length ca] 26)).alloc (by simp) (.cells #[.int .i64 r, .int .i64 c, .slice b ys.length cb] 26))
  refine (c_eqFloats _ _ _ _ xs ys _ (HA.out.kept HL.out) (HB.out.kept HL.out) HC.out).mono ?_
  rintro e w1 ⟨rfl, n, rfl⟩
  go_wp2
  go_ret
  exact ⟨rfl, below_drewN HL.out _⟩
theorem c_markTensor (r c : Int) (a : Option Addr) (cap B k : Nat) (ys : List Nat) (w : World) (h : OwnF w B a cap ys) (hk : k ≤ 4194304) (hl : ys.length ≤ 1048576) :
    Calls Try.prog 14 #[.agg #[.int .i64 r, .int .i64 c, .slice a ys.length cap], .int .i64 k] w (RetMark k B a cap ys.length w) := by
  have H := Lib.hid h
  clear h
  go_enter Try.func14, Try.ntmps14
  go_wp2_with fail
  have H1 := Lib.hid (H.out.kept ((Below.refl _ _).alloc (Nat.le_refl _) (.cells #[.int .i64 r, .int .i64 c, .slice a ys.length cap] 26)))
  refine (c_markFloats _ _ B _ ys _ H1.out hk hl).mono ?_
  rintro e w1 ⟨rfl, ho, hg⟩
  have HO := Lib.hid ho
  have HG := Lib.hid hg
  clear ho hg
  go_wp2
  go_ret
  exact ⟨rfl, HO.out, grown_step HG.out⟩
theorem c_markTensor' (r c : Int) (a : Option Addr) (cap B k m : Nat) (ys : List Nat) (w : World) (h : OwnF w B a cap ys) (hm : k + ys.length = m) (hk : k ≤ 4194304) (hl : ys.length ≤ 1048576) :
    Calls Try.prog 14 #[.agg #[.int .i64 r, .int .i64 c, .slice a ys.length cap], .int .i64 k] w fun e w' => e = .returned (.int .i64 (m : Int)) ∧ OwnF w' B a cap (marks k ys.length) ∧ w.grownBy w' (blk a) := by
  subst hm
  exact c_markTensor r c a cap B k ys w h hk hl
theorem c_heldTensor (r c : Int) (a : Option Addr) (cap k n : Nat) (w : World) (h : IsFloats .f32 w a n cap (marks k n)) (hk : k ≤ 4194304) (hl : n ≤ 1048576) :
    Calls Try.prog 15 #[.agg #[.int .i64 r, .int .i64 c, .slice a n cap], .int .i64 k] w fun e w' => e = .returned (.int .i64 ((k + n : Nat) : Int)) ∧ Below w.heap.size w w' := by
  have H := Lib.hid h
  clear h
  go_enter Try.func15, Try.ntmps15
  go_wp2_with fail
  refine (c_heldFloats _ _ _ n _ (H.out.kept ((Below.refl _ _).alloc (Nat.le_refl _) _)) hk hl).mono ?_
  rintro e w1 ⟨rfl, rfl⟩
  have hp : (0 : Int) ≤ (k : Int) + (n : Int) := by omega
  go_wp2
  go_ret
  exact ⟨rfl, (Below.refl _ _).alloc (Nat.le_refl _) _⟩
theorem c_heldTensor' (r c : Int) (a : Option Addr) (cap k m n : Nat) (w : World) (h : IsFloats .f32 w a n cap (marks k n)) (hm : k + n = m) (hk : k ≤ 4194304) (hl : n ≤ 1048576) :
    Calls Try.prog 15 #[.agg #[.int .i64 r, .int .i64 c, .slice a n cap], .int .i64 k] w fun e w' => e = .returned (.int .i64 (m : Int)) ∧ Below w.heap.size w w' := by
  subst hm
  exact c_heldTensor r c a cap k n w h hk hl
end Go.Proofs.Ytkfpaehalfjhhaa
