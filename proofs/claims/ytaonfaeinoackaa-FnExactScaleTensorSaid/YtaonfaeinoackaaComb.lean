/-
  Tensors number by number, as the program makes them: by a function that is handed over. Conditions: the numbers can be read.
-/
import Derived.Test.YtaonfaeinoackaaEach
import Derived.Test.YtaonfaeinoackaaFun
import Derived.Deep.RegionHeld3
namespace Go.Proofs.Ytaonfaeinoackaa
open Go.RowKit Go.Deep Go.WideShapes Go.ChangeShapes

theorem c_sumOfTwo (x y : Nat) (w : World) : Calls Try.prog 66 #[.float .f32 x, .float .f32 y] w fun e w' => e = .returned (.float .f32 (fval .add .f32 x y w)) ∧ w' = w.drewN (fdr .add .f32 x y) := by
  go_enter Try.func66, Try.ntmps66
  go_wp2
  go_ret
  exact ⟨rfl, rfl⟩
theorem c_productOfTwo (x y : Nat) (w : World) : Calls Try.prog 68 #[.float .f32 x, .float .f32 y] w fun e w' => e = .returned (.float .f32 (fval .mul .f32 x y w)) ∧ w' = w.drewN (fdr .mul .f32 x y) := by
  go_enter Try.func68, Try.ntmps68
  go_wp2
  go_ret
  exact ⟨rfl, rfl⟩
theorem one_row (w : World) (x : Nat) (hx : x < 4294967296) : IsFloats .f32 (w.alloc (.cells #[.float .f32 x] 23)) (some ⟨w.heap.size, 0, none⟩) 1 1 [x] := by
  refine ⟨Nat.le_refl _, by decide, rfl, fun y hy => ?_, .inr ⟨_, _, rfl, by simp, fun i hi => ?_⟩⟩
  · simp at hy; subst hy; exact hx
  · obtain rfl : i = 0 := by omega
    exact (Blk.new w 23 #[.float .f32 x]).cell 0
theorem mod_self_map {n m : Nat} (h : n = m) (f : Nat → Nat → Nat) : ((List.range n).map fun i => f i (i % m)) = (List.range n).map fun i => f i i := by
  subst h
  refine List.map_congr_left fun i hi => ?_
  rw [Nat.mod_eq_of_lt (List.mem_range.1 hi)]
set_option maxHeartbeats 2000000 in
theorem c_combineEach (F : FuncId) (f : Nat → Nat → Nat) (R C : Int) (a a2 : Option Addr) (n cap m cap2 : Nat) (zs xs : List Nat) (w : World) (h : IsFloats .f32 w a n cap zs) (h' : IsFloats .f32 w a2 m cap2 xs) (hn : n ≤ 256) (hm : 1 ≤ m) (hm' : m ≤ 256) (hE : ∀ (xs : Array Value) (wr : World), (callFunc F xs).run Try.prog wr = .ok (.enter F xs) wr)
    (hF : ∀ (x y : Nat) (wr : World), Calls Try.prog F (#[.float .f32 x, .float .f32 y] ++ #[]) wr (RetX (f x y) wr)) :
    Calls Try.prog 73 #[.agg #[.int .i64 R, .int .i64 C, .slice a n cap], .slice a2 m cap2, .func (.func F) #[] #[]] w (RetV R C ((List.range n).map fun i => f (zs.getD i 0) (xs.getD (i % m) 0)) w) := by
  have HF := Lib.hid h
  have HF' := Lib.hid h'
  have HC := Lib.hid hF
  have HEE := Lib.hid hE
  obtain ⟨vals, hvals⟩ : ∃ vals, ((List.range n).map fun i => f (zs.getD i 0) (xs.getD (i % m) 0)) = vals := ⟨_, rfl⟩
  have HV := Lib.hid hvals
  rw [hvals]
  clear h h' hF hE hvals
  go_enter Try.func73, Try.ntmps73
  go_wp2_with fail
  have B_0 := Lib.hid (Below.refl w.heap.size w)
  have bl := (Below.refl (w).heap.size (w)).alloc (Nat.le_refl _) (.cells #[.int .i64 R, .int .i64 C, .slice a n cap] 36)
  have hn' := Blk.new (w) 36 #[.int .i64 R, .int .i64 C, .slice a n cap]
  have B_1 := Lib.hid (Below.next B_0.out bl)
  clear bl B_0
  have K_1 := Lib.hid hn'
  clear hn'
  have bl := (Below.refl ((w).alloc (.cells #[.int .i64 R, .int .i64 C, .slice a n cap] 36)).heap.size ((w).alloc (.cells #[.int .i64 R, .int .i64 C, .slice a n cap] 36))).alloc (Nat.le_refl _) (.cells #[.int .i64 0, .int .i64 0, .slice none 0 0] 36)
  have hn' := Blk.new ((w).alloc (.cells #[.int .i64 R, .int .i64 C, .slice a n cap] 36)) 36 #[.int .i64 0, .int .i64 0, .slice none 0 0]
  simp only [World.size_alloc] at hn'
  have B_2 := Lib.hid (Below.next B_1.out bl)
  have K_2 := Lib.hid (K_1.out.below bl)
  clear bl B_1 K_1
  have Q_2 := Lib.hid hn'
  clear hn'
  generalize ((w).alloc (.cells #[.int .i64 R, .int .i64 C, .slice a n cap] 36)).alloc (.cells #[.int .i64 0, .int .i64 0, .slice none 0 0] 36) = w2 at B_2 K_2 Q_2 ⊢
  obtain ⟨p0, p1, p2, p3⟩ := tb K_2.out
  obtain ⟨r0, r1, r2, r3⟩ := tb Q_2.out
  obtain ⟨e0, e1, e2⟩ := tbf Q_2.out
  have hne : w.heap.size ≠ w.heap.size + 1 := by omega
  have HF2 := Lib.hid (HF.out.kept B_2.out)
  have HF2' := Lib.hid (HF'.out.kept B_2.out)
  go_region_held3 (fun w' => w'.cell? ⟨w.heap.size, 0, none⟩ = some (.int .i64 R) ∧ w'.cell? ⟨w.heap.size, 1, none⟩ = some (.int .i64 C) ∧ w'.cell? ⟨w.heap.size, 2, none⟩ = some (.slice a n cap)) (go_keep)
    (first
      | (go_at_call 88
         refine (c_combineLists F #[] f a a2 n cap m cap2 zs xs _ (HF2.out.kept ((Below.refl w2.heap.size w2).drew)) (HF2'.out.kept ((Below.refl w2.heap.size w2).drew)) hn hm hm' HEE.out (fun x y wr _ => HC.out x y wr)).mono ?_
         rintro e w3 ⟨b, cc, ys, rfl, hf, hy, hb⟩
         have hb1 : Below w2.heap.size w2 w3 := ((Below.refl _ _).drew).trans hb
         have HW := Lib.hid (hf.base (B' := w.heap.size) B_2.out.size)
         have HY := Lib.hid (hy.trans HV.out)
         have B_3 := Lib.hid (Below.next B_2.out hb1)
         have K_3 := Lib.hid (K_2.out.below hb1)
         have Q_3 := Lib.hid (Q_2.out.below hb1)
         clear hf hy hb hb1 p0 p1 p2 p3 r0 r1 r2 r3 e0 e1 e2
         obtain ⟨p0, p1, p2, p3⟩ := tb K_3.out
         obtain ⟨r0, r1, r2, r3⟩ := tb Q_3.out
         obtain ⟨e0, e1, e2⟩ := tbf Q_3.out))
  go_wp2_with fail
  exact bodyPost_ret (v := .agg #[.int .i64 R, .int .i64 C, .slice b ys.length cc]) (by simp [results, Try.results73, go_sem, r0, r1, r2]) rfl ⟨b, cc, ys, rfl, HW.out.off (store3 Q_3.out).2 Q_3.out (by decide), HY.out, ((B_3.out.setCell (by simp) _).setCell (by simp) _).setCell (by simp) _⟩
theorem x_sumOfTwo (x y : Nat) (wr : World) : Calls Try.prog 66 (#[.float .f32 x, .float .f32 y] ++ #[]) wr (RetX (cop .add .f32 (canon .f32 x) (canon .f32 y)) wr) :=
  (c_sumOfTwo x y wr).mono fun _ _ ⟨he, hw⟩ => ⟨_, he, canon_fval .add .f32 x y wr, fval_lt .add .f32 x y wr, by rw [hw]; exact below_drewN (Below.refl _ _) _⟩
theorem c_combineSum (R C : Int) (a a2 : Option Addr) (n cap m cap2 : Nat) (zs xs : List Nat) (w : World) (h : IsFloats .f32 w a n cap zs) (h' : IsFloats .f32 w a2 m cap2 xs) (hn : n ≤ 256) (hm : 1 ≤ m) (hm' : m ≤ 256) :
    Calls Try.prog 73 #[.agg #[.int .i64 R, .int .i64 C, .slice a n cap], .slice a2 m cap2, .func (.func 66) #[] #[]] w (RetV R C ((List.range n).map fun i => cop .add .f32 (canon .f32 (zs.getD i 0)) (canon .f32 (xs.getD (i % m) 0))) w) :=
  c_combineEach 66 (fun x y => cop .add .f32 (canon .f32 x) (canon .f32 y)) R C a a2 n cap m cap2 zs xs w h h' hn hm hm' (enters_of Try.func66 (by kernel_rfl) (by kernel_rfl)) x_sumOfTwo
theorem x_productOfTwo (x y : Nat) (wr : World) : Calls Try.prog 68 (#[.float .f32 x, .float .f32 y] ++ #[]) wr (RetX (cop .mul .f32 (canon .f32 x) (canon .f32 y)) wr) :=
  (c_productOfTwo x y wr).mono fun _ _ ⟨he, hw⟩ => ⟨_, he, canon_fval .mul .f32 x y wr, fval_lt .mul .f32 x y wr, by rw [hw]; exact below_drewN (Below.refl _ _) _⟩
theorem c_combineProd (R C : Int) (a a2 : Option Addr) (n cap m cap2 : Nat) (zs xs : List Nat) (w : World) (h : IsFloats .f32 w a n cap zs) (h' : IsFloats .f32 w a2 m cap2 xs) (hn : n ≤ 256) (hm : 1 ≤ m) (hm' : m ≤ 256) :
    Calls Try.prog 73 #[.agg #[.int .i64 R, .int .i64 C, .slice a n cap], .slice a2 m cap2, .func (.func 68) #[] #[]] w (RetV R C ((List.range n).map fun i => cop .mul .f32 (canon .f32 (zs.getD i 0)) (canon .f32 (xs.getD (i % m) 0))) w) :=
  c_combineEach 68 (fun x y => cop .mul .f32 (canon .f32 x) (canon .f32 y)) R C a a2 n cap m cap2 zs xs w h h' hn hm hm' (enters_of Try.func68 (by kernel_rfl) (by kernel_rfl)) x_productOfTwo
end Go.Proofs.Ytaonfaeinoackaa
