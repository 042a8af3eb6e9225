/-
  Words for plans: a list of steps in a struct. Conditions: the cells can be read.
-/
import Derived.Test.YtdngbfpfhkkmpaaDoorPsl
namespace Go.Proofs.YtdngbfpfhkkmpaaDoor
open Go.RowKit
set_option linter.unusedVariables false
set_option linter.unusedSimpArgs false

structure PlnA where
  g : Option Addr
  c : Nat
  ls : List PstA
def PlnA.P (x : PlnA) : List PstP := x.ls.map PstA.p
set_option maxRecDepth 100000 in
open Go.ChangeShapes Go.WideShapes Go.Deep in
theorem open_Pln {H : Type} {enc : TypeId × Value → H} {W : World} {base b0 : Nat} {re : Reach} {held : Bool} {v : Value} {d : DataW H} {p : List MemPlace}
    (hv : Value.okWide Tryd.prog W re b0 24 v) (h : DataW.Trod enc Tryd.prog W base (fun _ => true) held 24 v d p) :
    ∃ x : PlnA, v = .agg #[.slice x.g x.ls.length x.c] ∧ PstsAt W x.g x.ls.length x.c x.ls := by
  obtain ⟨cs, rfl, hsz⟩ := okWide_struct Tryd.underlying24 hv
  obtain ⟨fuel, hf⟩ := h
  obtain ⟨l, e, ha, ht⟩ := opened 5 _ _ _ _ _ (show tyOf Tryd.prog 5 24 = some [.sl 50 7 [.int, .int, .int, .sl 90 1 [.f32], .sl 90 1 [.f32], .sl 90 1 [.f32], .bool]] by kernel_rfl) hf
  simp only [typedL, Cl.typed.eq_4] at ht
  obtain ⟨c0, l0, rfl, ⟨g, cap, ls, rfl, hl⟩, rfl⟩ := ht
  obtain ⟨rs, e1, e2⟩ := typed_list PstA.cs (fun l h => PstA.typed h) ls hl
  rw [e1, ← e2] at ha e
  refine ⟨⟨g, cap, rs⟩, ?_, ?_⟩
  · simp only [Value.cells] at e
    rw [show cs = #[.slice g rs.length cap] from (Array.toList_inj.1 (by rw [← e]; rfl)).symm]
  · exact pstsAt_cl.1 (by simpa [AtL, pstsC] using ha)
theorem c_szPln (g : Option Addr) (cap n l r : Nat) (ls : List PstA) (w : World) (h : PstsAt w g n cap ls) (hl : l ≤ 1048576) (hs : n + pstSum (ls.map PstA.p) ≤ l) (hr : l - (n + pstSum (ls.map PstA.p)) = r) :
    Calls Tryd.prog 4 #[.agg #[.slice g n cap], .int .i64 l] w fun e w' => e = .returned (.int .i64 (r : Int)) ∧ Below w.heap.size w w' := by
  have H := Lib.hid h
  have HS := Lib.hid hs
  have HR := Lib.hid hr
  have h0 : (0 : Int) ≤ (r : Int) := by omega
  clear h hs hr
  go_enter Tryd.func4, Tryd.ntmps4
  go_wp2_with fail
  have b0 := (Below.refl w.heap.size w).alloc (Nat.le_refl _) (.cells #[.slice g n cap] 24)
  refine (c_szPsts g cap n l r ls _ (H.out.kept b0) hl HS.out HR.out).mono ?_
  rintro e w1 ⟨rfl, bl⟩
  have HB := Lib.hid (Below.next b0 bl)
  clear b0 bl
  go_wp2_with fail
  go_ret
  exact ⟨rfl, HB.out⟩
theorem c_szPln_no (g : Option Addr) (cap n l : Nat) (ls : List PstA) (w : World) (h : PstsAt w g n cap ls) (hl : l ≤ 1048576) (hs : l < n + pstSum (ls.map PstA.p)) :
    Calls Tryd.prog 4 #[.agg #[.slice g n cap], .int .i64 l] w fun e w' => e = .returned (.int .i64 (-1)) ∧ Below w.heap.size w w' := by
  have H := Lib.hid h
  have HS := Lib.hid hs
  clear h hs
  go_enter Tryd.func4, Tryd.ntmps4
  go_wp2_with fail
  have b0 := (Below.refl w.heap.size w).alloc (Nat.le_refl _) (.cells #[.slice g n cap] 24)
  refine (c_szPsts_no g cap n l ls _ (H.out.kept b0) hl HS.out).mono ?_
  rintro e w1 ⟨rfl, bl⟩
  have HB := Lib.hid (Below.next b0 bl)
  clear b0 bl
  go_wp2_with fail
  go_ret
  exact ⟨rfl, HB.out⟩
def RetPln (ps : List PstP) (n : Nat) (w : World) (e : Ending) (w' : World) : Prop :=
  ∃ (g : Nat) (ys : List PstA), e = .returned (.agg #[.slice (some ⟨g, 0, none⟩) n n]) ∧ ys.length = n ∧ ys.map PstA.p = ps ∧ OwnL w' w.heap.size [.sl 45 7 n (some ⟨g, 0, none⟩) n (pstsC ys)] ∧ (blL [.sl 45 7 n (some ⟨g, 0, none⟩) n (pstsC ys)]).Nodup ∧ Below w.heap.size w w'
set_option maxRecDepth 20000 in
set_option maxHeartbeats 1000000 in
theorem c_toPln (g : Option Addr) (cap n : Nat) (ls : List PstA) (w : World) (h : PstsAt w g n cap ls) (hl : n + pstSum (ls.map PstA.p) ≤ 1048576) :
    Calls Tryd.prog 6 #[.agg #[.slice g n cap]] w (RetPln (ls.map PstA.p) n w) := by
  have H := Lib.hid h
  have HL := Lib.hid hl
  clear h hl
  go_enter Tryd.func6, Tryd.ntmps6
  go_wp2_with fail
  have b0 := (((Below.refl w.heap.size w).alloc (Nat.le_refl _) (.cells #[.slice g n cap] 24)).alloc (by simp) (.cells #[.slice none 0 0] 30)).alloc (by simp; omega) (.cells #[.slice none 0 0] 30)
  have k2 := (Blk.new (w.alloc (.cells #[.slice g n cap] 24)) 30 #[.slice none 0 0]).below ((Below.refl _ _).alloc (Nat.le_refl _) (.cells #[.slice none 0 0] 30))
  have k3 := Blk.new ((w.alloc (.cells #[.slice g n cap] 24)).alloc (.cells #[.slice none 0 0] 30)) 30 #[.slice none 0 0]
  simp only [World.size_alloc] at k2 k3
  generalize ((w.alloc (.cells #[.slice g n cap] 24)).alloc (.cells #[.slice none 0 0] 30)).alloc (.cells #[.slice none 0 0] 30) = W0 at b0 k2 k3 ⊢
  have s3 := k3.lt
  refine (c_toPsts g cap n ls _ (H.out.kept b0) HL.out).mono ?_
  rintro e w1 ⟨gd, ys, rfl, hyl, hyp, ho, hnd, bl⟩
  have K2 := Lib.hid (k2.below bl)
  have K3 := Lib.hid (k3.below bl)
  have S3 := Lib.hid s3
  have HB := Lib.hid (Below.next b0 bl)
  have HO := Lib.hid ho
  have HYL := Lib.hid hyl
  have HYP := Lib.hid hyp
  have HND := Lib.hid hnd
  have BS := Lib.hid (show w.heap.size + 1 + 1 < W0.heap.size from s3)
  clear b0 k2 k3 s3 hyl hyp ho hnd bl
  have p2 := K2.out.cell 0
  have p3 := K3.out.cell 0
  have f2 := K2.out.frozen 0
  have f3 := K3.out.frozen 0
  simp only [List.getElem?_toArray, List.getElem?_cons_zero] at p2 p3
  go_wp2_with fail
  refine bodyPost_ret (v := .agg #[.slice (some ⟨gd, 0, none⟩) n n]) (by simp [results, Tryd.results6, go_sem, p2]) rfl ⟨gd, ys, rfl, HYL.out, HYP.out, ?_, HND.out, ?_⟩
  · have := BS.out
    exact OwnL.base (by omega) _ ((HO.out.far (p := ⟨w.heap.size + 1 + 1, 0, none⟩) (by simp; omega) _).far (p := ⟨w.heap.size + 1, 0, none⟩) (by simp; omega) _)
  · exact (HB.out.setCell (p := ⟨w.heap.size + 1 + 1, 0, none⟩) (by simp; omega) _).setCell (p := ⟨w.heap.size + 1, 0, none⟩) (by simp) _
set_option maxHeartbeats 1000000 in
theorem c_eqPln (g g' : Option Addr) (cap cap' n : Nat) (ls ls' : List PstA) (w : World) (h : PstsAt w g n cap ls) (h' : PstsAt w g' n cap' ls') (hp : ls.map (fun x => x.p.can) = ls'.map (fun x => x.p.can)) :
    Calls Tryd.prog 8 #[.agg #[.slice g n cap], .agg #[.slice g' n cap']] w fun e w' => e = .returned (.bool true) ∧ Below w.heap.size w w' := by
  have H := Lib.hid h
  have H' := Lib.hid h'
  have HP := Lib.hid hp
  clear h h' hp
  go_enter Tryd.func8, Tryd.ntmps8
  go_wp2_with fail
  have b0 := ((Below.refl w.heap.size w).alloc (Nat.le_refl _) (.cells #[.slice g n cap] 30)).alloc (by simp) (.cells #[.slice g' n cap'] 30)
  refine (c_eqPsts g g' cap cap' n ls ls' _ (H.out.kept b0) (H'.out.kept b0) HP.out).mono ?_
  rintro e w1 ⟨rfl, bl⟩
  have HB := Lib.hid (Below.next b0 bl)
  clear b0 bl
  go_wp2_with fail
  go_ret
  exact ⟨rfl, HB.out⟩
end Go.Proofs.YtdngbfpfhkkmpaaDoor
