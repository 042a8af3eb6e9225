/-
  All numbers of a state: the program. Conditions: the cells can be read.
-/
import Derived.Test.YtpobdigmjfapbaaDoorAln
namespace Go.Proofs.YtpobdigmjfapbaaDoor
open Go.RowKit Go.Deep Go.WideShapes Go.ChangeShapes
set_option linter.unusedVariables false
attribute [local go_sem] World.drewN_zero

theorem ssAt_two {w : World} {g : Nat} {t : TypeId} {x y : FlA} (hk : Blk w g t #[x.v, y.v]) (hx : IsFloats .f32 w x.a x.z.length x.c x.z) (hy : IsFloats .f32 w y.a y.z.length y.c y.z) : SSAt w (some ⟨g, 0, none⟩) 2 2 [x, y] := by
  refine ⟨rfl, Nat.le_refl _, by unfold maxLen; omega, ?_, .inr ⟨g, 0, rfl, hk.lt, ?_⟩⟩
  · intro z hz
    simp only [List.mem_cons, List.not_mem_nil, or_false] at hz
    rcases hz with rfl | rfl
    · exact hx
    · exact hy
  · intro i z hz
    have hi := (List.getElem?_eq_some_iff.1 hz).1
    simp only [List.length_cons, List.length_nil] at hi
    match i, hi with
    | 0, _ => simp at hz; subst hz; exact hk.cell 0
    | 1, _ => simp at hz; subst hz; exact hk.cell 1
set_option maxRecDepth 20000 in
set_option maxHeartbeats 4000000 in
theorem c_numbers (q : TrsA) (w : World) (h : TrsAt w q) (hs : stbB q = true) : Calls Tryd.prog 69 #[.agg q.cells] w (RetFs (allN q) w) := by
  obtain ⟨b1, b2, b3, b4, b5⟩ := stb_bounds hs
  obtain ⟨g, c, ls, g', c', ss, st, sd, sc⟩ := q
  simp only [TrsAt] at h
  obtain ⟨a1, a2, _⟩ := h
  unfold TrsA.cells
  simp only [TrsA.ps, allN] at b1 b2 b3 b4 b5 ⊢
  have HP := Lib.hid (fun W (hb : Below w.heap.size w W) => c_params g c ls.length ls W (a1.kept hb) b2 b1)
  have HC := Lib.hid (fun W (hb : Below w.heap.size w W) => c_concatS g' c' ss.length ss W (a2.kept hb) (by omega))
  obtain ⟨Z, hZ⟩ : ∃ Z, parOf (ls.map LayA.p) = Z := ⟨_, rfl⟩
  obtain ⟨Y, hY⟩ : ∃ Y, catS ss = Y := ⟨_, rfl⟩
  rw [hZ] at HP b5 ⊢
  rw [hY] at HC b4 ⊢
  have HL2 := Lib.hid (show ∀ a c a' c', (catS [⟨Z, a, c⟩, ⟨Y, a', c'⟩]).length ≤ 4096 ∧ catS [⟨Z, a, c⟩, ⟨Y, a', c'⟩] = Z ++ Y from fun a c a' c' => ⟨by simp [catS]; omega, by simp [catS]⟩)
  obtain ⟨n, hn⟩ : ∃ n, ls.length = n := ⟨_, rfl⟩
  obtain ⟨m, hm⟩ : ∃ m, ss.length = m := ⟨_, rfl⟩
  rw [hn] at HP ⊢
  rw [hm] at HC ⊢
  have K0 := Lib.hid (Blk.new w 51 #[.slice g n c, .slice g' m c', .int .i64 st, .int .i64 sd, .float .f32 sc])
  have B0 := Lib.hid ((Below.refl w.heap.size w).alloc (Nat.le_refl _) (.cells #[.slice g n c, .slice g' m c', .int .i64 st, .int .i64 sd, .float .f32 sc] 51))
  clear hZ hY hn hm a1 a2 b1 b2 b3 b4 b5 hs
  go_enter Tryd.func69, Tryd.ntmps69
  go_wp2_with fail
  generalize w.alloc (.cells #[.slice g n c, .slice g' m c', .int .i64 st, .int .i64 sd, .float .f32 sc] 51) = w1 at K0 B0 ⊢
  have bl : Below w1.heap.size w1 w1.drew := (Below.refl _ _).drew
  have K1 := Lib.hid (K0.out.below bl)
  have B1 := Lib.hid (Below.next B0.out bl)
  clear K0 B0 bl
  obtain ⟨p0, p1, p2, p3, p4, p5⟩ := tbt5 K1.out
  go_region_held3 (fun w' => w'.cell? ⟨w.heap.size, 0, none⟩ = some (.slice g n c) ∧ w'.cell? ⟨w.heap.size, 1, none⟩ = some (.slice g' m c')) (go_keep)
    (first
      | (go_at_call 113
         refine (HP.out _ B1.out).mono ?_
         rintro e w2 ⟨b, cp, rfl, ho, bl⟩
         have K2 := Lib.hid (K1.out.below bl)
         have B2 := Lib.hid (Below.next B1.out bl)
         have O2 := Lib.hid ho.isFloats
         clear ho bl p0 p1 p2 p3 p4 p5
         obtain ⟨p0, p1, p2, p3, p4, p5⟩ := tbt5 K2.out)
      | (go_at_call_of 112 (Value.slice g' m c')
         refine (HC.out _ B2.out).mono ?_
         rintro e w3 ⟨b', cp', rfl, ho, bl⟩
         have K3 := Lib.hid (K2.out.below bl)
         have B3 := Lib.hid (Below.next B2.out bl)
         have O3 := Lib.hid (O2.out.kept bl)
         have P3 := Lib.hid ho.isFloats
         clear ho bl p0 p1 p2 p3 p4 p5
         obtain ⟨p0, p1, p2, p3, p4, p5⟩ := tbt5 K3.out)
      | (go_at_call 112
         have al := (Below.refl w3.heap.size w3).alloc (Nat.le_refl _) (.cells #[.slice b Z.length cp, .slice b' Y.length cp'] 24)
         have HSS := Lib.hid (ssAt_two (x := ⟨Z, b, cp⟩) (y := ⟨Y, b', cp'⟩) (Blk.new w3 24 #[.slice b Z.length cp, .slice b' Y.length cp']) (O3.out.kept al) (P3.out.kept al))
         have B4 := Lib.hid (Below.next B3.out al)
         have S4 := Lib.hid (K3.out.below al)
         clear al
         refine (c_concatS _ 2 2 [⟨Z, b, cp⟩, ⟨Y, b', cp'⟩] _ HSS.out (HL2.out _ _ _ _).1).mono ?_
         rintro e w5 ⟨b5, cp5, rfl, ho, bl⟩
         have B5 := Lib.hid (Below.next B4.out bl)
         have O5 := Lib.hid ho
         have Z5 := Lib.hid B4.out.size
         have S5 := Lib.hid (S4.out.below bl)
         clear ho bl p0 p1 p2 p3 p4 p5
         obtain ⟨p0, p1, p2, p3, p4, p5⟩ := tbt5 S5.out))
  all_goals
    go_wp2_with fail
    rw [(HL2.out _ _ _ _).2] at O5 ⊢
    go_ret
    exact ⟨b5, cp5, rfl, O5.out.base Z5.out, B5.out⟩
end Go.Proofs.YtpobdigmjfapbaaDoor
