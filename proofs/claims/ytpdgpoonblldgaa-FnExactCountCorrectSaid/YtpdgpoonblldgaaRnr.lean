/-
  The runner that the program makes of a valid layer, and what RunLayer, as the program, answers. Conditions: the numbers can be read.
-/
import Derived.Test.YtpdgpoonblldgaaRun
import Derived.Test.YtpdgpoonblldgaaLay
namespace Go.Proofs.Ytpdgpoonblldgaa
open Go.RowKit Go.Deep Go.WideShapes Go.ChangeShapes
set_option linter.unusedVariables false
set_option linter.unusedSimpArgs false

/-- R is a runner for a layer of these numbers, from the world W on -/
def RunsAs (R : Value) (W : World) (k : Int) (i o : Nat) (ws bs : List Nat) : Prop :=
  ∃ (T : TypeId) (v v' : Value) (F : FuncId), R = .iface T v ∧ (∀ w : World, (method 376 T v "loop.example/g01157/impl.run").run Try.prog w = .ok (F, v') w) ∧ (∀ (xs : Array Value) (wr : World), (callFunc F xs).run Try.prog wr = .ok (.enter F xs) wr) ∧
    ∀ (x : Option Addr) (cap : Nat) (z : List Nat) (wr : World), Below W.heap.size W wr → IsFloats .f32 wr x z.length cap z → z.length = i → Calls Try.prog F #[v', .slice x z.length cap] wr (RetLs (runV k i o ws bs z) wr)
def RetRun (k : Int) (i o : Nat) (ws bs : List Nat) (w : World) (e : Ending) (w' : World) : Prop := ∃ R, e = .returned R ∧ RunsAs R w' k i o ws bs ∧ Below w.heap.size w w'

theorem mth1 (w : World) : (method 376 231 (.agg #[]) "loop.example/g01157/impl.run").run Try.prog w = .ok (226, .agg #[]) w := by kernel_rfl
theorem mth2 (a : Option Addr) (c n : Nat) (w : World) : (method 376 233 (.agg #[.slice a n c]) "loop.example/g01157/impl.run").run Try.prog w = .ok (230, .agg #[.slice a n c]) w := by kernel_rfl
theorem mth3 (w : World) : (method 376 234 (.agg #[]) "loop.example/g01157/impl.run").run Try.prog w = .ok (233, .agg #[]) w := by kernel_rfl
theorem mth4 (w : World) : (method 376 235 (.agg #[]) "loop.example/g01157/impl.run").run Try.prog w = .ok (237, .agg #[]) w := by kernel_rfl
theorem mth5 (a b : Option Addr) (c n d m : Nat) (w : World) : (method 376 237 (.agg #[.slice a n c, .slice b m d]) "loop.example/g01157/impl.run").run Try.prog w = .ok (244, .agg #[.slice a n c, .slice b m d]) w := by kernel_rfl
theorem mth0 (a b : Option Addr) (c n d m : Nat) (w : World) : (method 376 230 (.agg #[.slice a n c, .slice b m d]) "loop.example/g01157/impl.run").run Try.prog w = .ok (224, .agg #[.slice a n c, .slice b m d]) w := by kernel_rfl
theorem c_runner1 (i o : Nat) (a b : Option Addr) (c d : Nat) (ws bs : List Nat) (w : World) (hi : 1 ≤ i ∧ i ≤ 8) (hw : True) (hbl : True) (h : IsFloats .f32 w a ws.length c ws) (h' : IsFloats .f32 w b bs.length d bs) :
    Calls Try.prog 176 #[.agg #[.int .i64 1, .int .i64 i, .int .i64 o, .slice a ws.length c, .slice b bs.length d]] w (RetRun 1 i o ws bs w) := by
  have bal := (Below.refl w.heap.size w).alloc (Nat.le_refl _) (.cells #[.int .i64 1, .int .i64 i, .int .i64 o, .slice a ws.length c, .slice b bs.length d] 132)
  have B := Lib.hid bal
  have HA := Lib.hid (h.kept bal)
  have HB := Lib.hid (h'.kept bal)
  have HW := Lib.hid hw
  have HBL := Lib.hid hbl
  clear h h' bal hw hbl
  go_enter Try.func176, Try.ntmps176
  go_wp2_with fail
  go_ret
  have hw := HW.out
  have hbl := HBL.out
  refine ⟨_, rfl, ⟨231, .agg #[], .agg #[], 226, rfl, mth1, enters_of Try.func226 (by kernel_rfl) (by kernel_rfl), fun x cap z wr hb hf hz => ?_⟩, B.out⟩
  exact x_rRelu x cap z wr hf (by omega)
theorem c_runner2 (i o : Nat) (a b : Option Addr) (c d : Nat) (ws bs : List Nat) (w : World) (hi : 1 ≤ i ∧ i ≤ 8) (hw : ws.length = i) (hbl : True) (h : IsFloats .f32 w a ws.length c ws) (h' : IsFloats .f32 w b bs.length d bs) :
    Calls Try.prog 176 #[.agg #[.int .i64 2, .int .i64 i, .int .i64 o, .slice a ws.length c, .slice b bs.length d]] w (RetRun 2 i o ws bs w) := by
  have bal := (Below.refl w.heap.size w).alloc (Nat.le_refl _) (.cells #[.int .i64 2, .int .i64 i, .int .i64 o, .slice a ws.length c, .slice b bs.length d] 132)
  have B := Lib.hid bal
  have HA := Lib.hid (h.kept bal)
  have HB := Lib.hid (h'.kept bal)
  have HW := Lib.hid hw
  have HBL := Lib.hid hbl
  clear h h' bal hw hbl
  go_enter Try.func176, Try.ntmps176
  go_wp2_with fail
  go_ret
  have hw := HW.out
  have hbl := HBL.out
  refine ⟨_, rfl, ⟨233, .agg #[.slice a ws.length c], .agg #[.slice a ws.length c], 230, rfl, mth2 a c ws.length, enters_of Try.func230 (by kernel_rfl) (by kernel_rfl), fun x cap z wr hb hf hz => ?_⟩, B.out⟩
  exact x_rScale x a cap c z ws wr hf (HA.out.kept hb) (by omega) (by omega) (by omega)
theorem c_runner3 (i o : Nat) (a b : Option Addr) (c d : Nat) (ws bs : List Nat) (w : World) (hi : 1 ≤ i ∧ i ≤ 8) (hw : True) (hbl : True) (h : IsFloats .f32 w a ws.length c ws) (h' : IsFloats .f32 w b bs.length d bs) :
    Calls Try.prog 176 #[.agg #[.int .i64 3, .int .i64 i, .int .i64 o, .slice a ws.length c, .slice b bs.length d]] w (RetRun 3 i o ws bs w) := by
  have bal := (Below.refl w.heap.size w).alloc (Nat.le_refl _) (.cells #[.int .i64 3, .int .i64 i, .int .i64 o, .slice a ws.length c, .slice b bs.length d] 132)
  have B := Lib.hid bal
  have HA := Lib.hid (h.kept bal)
  have HB := Lib.hid (h'.kept bal)
  have HW := Lib.hid hw
  have HBL := Lib.hid hbl
  clear h h' bal hw hbl
  go_enter Try.func176, Try.ntmps176
  go_wp2_with fail
  go_ret
  have hw := HW.out
  have hbl := HBL.out
  refine ⟨_, rfl, ⟨234, .agg #[], .agg #[], 233, rfl, mth3, enters_of Try.func233 (by kernel_rfl) (by kernel_rfl), fun x cap z wr hb hf hz => ?_⟩, B.out⟩
  exact x_rTanh x cap z wr hf (by omega)
theorem c_runner4 (i o : Nat) (a b : Option Addr) (c d : Nat) (ws bs : List Nat) (w : World) (hi : 1 ≤ i ∧ i ≤ 8) (hw : True) (hbl : True) (h : IsFloats .f32 w a ws.length c ws) (h' : IsFloats .f32 w b bs.length d bs) :
    Calls Try.prog 176 #[.agg #[.int .i64 4, .int .i64 i, .int .i64 o, .slice a ws.length c, .slice b bs.length d]] w (RetRun 4 i o ws bs w) := by
  have bal := (Below.refl w.heap.size w).alloc (Nat.le_refl _) (.cells #[.int .i64 4, .int .i64 i, .int .i64 o, .slice a ws.length c, .slice b bs.length d] 132)
  have B := Lib.hid bal
  have HA := Lib.hid (h.kept bal)
  have HB := Lib.hid (h'.kept bal)
  have HW := Lib.hid hw
  have HBL := Lib.hid hbl
  clear h h' bal hw hbl
  go_enter Try.func176, Try.ntmps176
  go_wp2_with fail
  go_ret
  have hw := HW.out
  have hbl := HBL.out
  refine ⟨_, rfl, ⟨235, .agg #[], .agg #[], 237, rfl, mth4, enters_of Try.func237 (by kernel_rfl) (by kernel_rfl), fun x cap z wr hb hf hz => ?_⟩, B.out⟩
  exact x_rSoft x cap z wr hf (by omega) (by omega)
theorem c_runner5 (i o : Nat) (a b : Option Addr) (c d : Nat) (ws bs : List Nat) (w : World) (hi : 1 ≤ i ∧ i ≤ 8) (hw : ws.length = i) (hbl : bs.length = i) (h : IsFloats .f32 w a ws.length c ws) (h' : IsFloats .f32 w b bs.length d bs) :
    Calls Try.prog 176 #[.agg #[.int .i64 5, .int .i64 i, .int .i64 o, .slice a ws.length c, .slice b bs.length d]] w (RetRun 5 i o ws bs w) := by
  have bal := (Below.refl w.heap.size w).alloc (Nat.le_refl _) (.cells #[.int .i64 5, .int .i64 i, .int .i64 o, .slice a ws.length c, .slice b bs.length d] 132)
  have B := Lib.hid bal
  have HA := Lib.hid (h.kept bal)
  have HB := Lib.hid (h'.kept bal)
  have HW := Lib.hid hw
  have HBL := Lib.hid hbl
  clear h h' bal hw hbl
  go_enter Try.func176, Try.ntmps176
  go_wp2_with fail
  go_ret
  have hw := HW.out
  have hbl := HBL.out
  refine ⟨_, rfl, ⟨237, .agg #[.slice a ws.length c, .slice b bs.length d], .agg #[.slice a ws.length c, .slice b bs.length d], 244, rfl, mth5 a b c ws.length d bs.length, enters_of Try.func244 (by kernel_rfl) (by kernel_rfl), fun x cap z wr hb hf hz => ?_⟩, B.out⟩
  exact x_rNorm x a b cap c d z ws bs wr hf (HA.out.kept hb) (HB.out.kept hb) (by omega) (by omega) (by omega) (by omega)
theorem parts_rows {i o : Nat} {ws : List Nat} (hi : 1 ≤ i) (hl : ws.length = o * i) : chCnt ws.length i = o := by
  rw [hl]
  unfold chCnt
  rw [show o * i + i - 1 = (i - 1) + o * i by omega, Nat.add_mul_div_right _ _ (by omega), Nat.div_eq_of_lt (by omega), Nat.zero_add]
set_option maxRecDepth 20000 in
set_option maxHeartbeats 2000000 in
theorem c_runner0 (i o : Nat) (a b : Option Addr) (c d : Nat) (ws bs : List Nat) (w : World) (hi : 1 ≤ i ∧ i ≤ 8) (ho : 1 ≤ o ∧ o ≤ 8) (hw : ws.length = o * i) (hbl : bs.length = o) (h : IsFloats .f32 w a ws.length c ws) (h' : IsFloats .f32 w b bs.length d bs) :
    Calls Try.prog 176 #[.agg #[.int .i64 0, .int .i64 i, .int .i64 o, .slice a ws.length c, .slice b bs.length d]] w (RetRun 0 i o ws bs w) := by
  have hn1 : ws.length ≤ 64 := by rw [hw]; exact Nat.le_trans (Nat.mul_le_mul ho.2 hi.2) (by decide)
  have hn0 : 1 ≤ ws.length := by rw [hw]; exact Nat.mul_pos ho.1 hi.1
  have HN1 := Lib.hid hn1
  have HW := Lib.hid hw
  have HBL := Lib.hid hbl
  have HI := Lib.hid hi
  have HO := Lib.hid ho
  rcases h.2.2.2.2 with h0 | ⟨wb, wo, rfl, hwb, hwc⟩
  · omega
  have bal := (Below.refl w.heap.size w).alloc (Nat.le_refl _) (.cells #[.int .i64 0, .int .i64 i, .int .i64 o, .slice (some ⟨wb, wo, none⟩) ws.length c, .slice b bs.length d] 132)
  have B0 := Lib.hid bal
  have HA := Lib.hid (h.kept bal)
  have HB := Lib.hid (h'.kept bal)
  have K0 := Lib.hid (Blk.new w 132 #[.int .i64 0, .int .i64 i, .int .i64 o, .slice (some ⟨wb, wo, none⟩) ws.length c, .slice b bs.length d])
  have hi1 : (1 : Int) ≤ (i : Int) := by omega
  clear h h' bal hwc hwb hw hbl hn1 hn0
  go_enter Try.func176, Try.ntmps176
  go_upto_region 1 with fail
  generalize w.alloc (.cells #[.int .i64 0, .int .i64 i, .int .i64 o, .slice (some ⟨wb, wo, none⟩) ws.length c, .slice b bs.length d] 132) = w0 at B0 HA HB K0 ⊢
  obtain ⟨p0, p1, p2, p3, p4, pl⟩ := tb5 K0.out
  go_upto_region 3 with fail
  have BD := Lib.hid ((Below.refl w0.heap.size w0).drew)
  go_region_held3 (fun w' => w'.cell? ⟨w.heap.size, 1, none⟩ = some (.int .i64 i) ∧ w'.cell? ⟨w.heap.size, 3, none⟩ = some (.slice (some ⟨wb, wo, none⟩) ws.length c) ∧ w'.cell? ⟨w.heap.size, 4, none⟩ = some (.slice b bs.length d)) (go_keep)
    (first
      | (go_at_call 186
         refine (c_parts wb wo ws.length c i ws _ HA1.out HI.out.1 (by have := HI.out; omega) (by have := HN1.out; omega) Bs Bn HBs.out.1 HBn.out.1 HBs.out.2 HBn.out.2).mono ?_
         rintro e w2 ⟨g2, c2, ls, rfl, hs2, hz2, hb2⟩
         have B2 := Lib.hid (Below.next B1.out hb2)
         have HS := Lib.hid hs2
         have HZ := Lib.hid hz2
         have HB2 := Lib.hid (HB1.out.kept hb2)
         have K2 := Lib.hid (K1.out.below hb2)
         clear hs2 hz2 hb2 p0 p1 p2 p3 p4 pl
         obtain ⟨p0, p1, p2, p3, p4, pl⟩ := tb5 K2.out)
      | (go_at_call 152
         refine (c_chunk (some ⟨wb, wo, none⟩) ws.length c i HI.out.1 _).mono ?_
         rintro e w1 ⟨rfl, rfl⟩
         have hb1 : Below w0.drew.heap.size w0.drew ((w0.drew.alloc (.cells #[.slice (some ⟨wb, wo, none⟩) ws.length c] 25)).alloc (.cells #[.int .i64 i] 3)) := ((Below.refl _ _).alloc (Nat.le_refl _) _).alloc (by simp) _
         have k1 := (Blk.new w0.drew 25 #[.slice (some ⟨wb, wo, none⟩) ws.length c]).below ((Below.refl _ _).alloc (Nat.le_refl _) (.cells #[.int .i64 i] 3))
         have k2 := Blk.new (w0.drew.alloc (.cells #[.slice (some ⟨wb, wo, none⟩) ws.length c] 25)) 3 #[.int .i64 i]
         have hbb : Below w0.heap.size w0 _ := BD.out.trans hb1
         have B1 := Lib.hid (Below.next B0.out hbb)
         have HA1 := Lib.hid (HA.out.kept hbb)
         have HB1 := Lib.hid (HB.out.kept hbb)
         have K1 := Lib.hid (K0.out.below hbb)
         obtain ⟨Bs, hBs⟩ : ∃ n, w0.drew.heap.size = n := ⟨_, rfl⟩
         simp only [World.size_alloc] at k2
         rw [hBs] at k1 k2 ⊢
         obtain ⟨Bn, hBn⟩ : ∃ n, Bs + 1 = n := ⟨_, rfl⟩
         rw [hBn] at k2 ⊢
         have HBs := Lib.hid (And.intro k1.lt (k1.cell 0))
         have HBn := Lib.hid (And.intro k2.lt (k2.cell 0))
         clear hb1 hbb k1 k2 hBs hBn p0 p1 p2 p3 p4 pl
         generalize (w0.drew.alloc (.cells #[.slice (some ⟨wb, wo, none⟩) ws.length c] 25)).alloc (.cells #[.int .i64 i] 3) = w1 at B1 HA1 HB1 K1 HBs HBn ⊢
         obtain ⟨p0, p1, p2, p3, p4, pl⟩ := tb5 K1.out))
  all_goals
    go_wp2_with fail
    go_ret
    have hzz : ls.map FlA.z = (List.range o).map fun q => (ws.drop (q * i)).take i := by rw [HZ.out, parts_rows HI.out.1 HW.out]
    have hll : ls.length = o := by have := congrArg List.length hzz; simpa using this
    refine ⟨_, rfl, ⟨230, _, _, 224, rfl, mth0 g2 b c2 ls.length d bs.length, enters_of Try.func224 (by kernel_rfl) (by kernel_rfl), fun x cap z wr hb hf hz => ?_⟩, B2.out⟩
    have hbs : bs.length = ls.length := by rw [HBL.out, hll]
    have hd := x_rDense g2 x b cap d ls.length c2 ls z bs wr hf (by rw [← hbs]; exact HB2.out.kept hb) (HS.out.kept hb) (by rw [hll]; exact HO.out.2) (fun y hy => by
      have hm : y.z ∈ ls.map FlA.z := List.mem_map.2 ⟨y, hy, rfl⟩
      rw [hzz] at hm
      obtain ⟨q, hq, e⟩ := List.mem_map.1 hm
      have hq := List.mem_range.1 hq
      rw [← e, List.length_take, List.length_drop, HW.out, hz]
      have : (q + 1) * i ≤ o * i := Nat.mul_le_mul_right i hq
      rw [Nat.succ_mul] at this
      omega)
    rw [hbs]
    refine hd.mono fun e w' h => ?_
    refine h.below (Below.refl _ _) ?_
    rw [hll]
    exact dense_eq hzz
end Go.Proofs.Ytpdgpoonblldgaa
