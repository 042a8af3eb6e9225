/-
  What is made of the greatest numbers of squares, as the model makes it. Conditions: the numbers can be read.
-/
import Derived.Test.YtaonfaeinoackaaPoolI
import Derived.Test.YtaonfaeinoackaaGix
import Derived.Test.YtaonfaeinoackaaEach
import Derived.BigRegion
namespace Go.Proofs.Ytaonfaeinoackaa
open Go.RowKit Go.Deep Go.WideShapes Go.ChangeShapes
set_option linter.unusedVariables false

def gMost (l : List Nat) (_ : Nat) : Nat := canon .f32 (l.getD (gixF (fun j => l.getD j 0) l.length) 0)
theorem Made.later {R C : Int} {f : Nat → Nat} {k gb : Nat} {w wr w' : World} (h : Made R C f k gb w wr) (hb : Below wr.heap.size wr w') : Made R C f k gb w w' := by
  obtain ⟨a, cp, ys, h1, h2, h3, h4, h5, h6, h7⟩ := h
  exact ⟨a, cp, ys, h1, h2, h3.below hb, h4.kept hb, h5, Below.next h6 hb, h7.below hb⟩
def ListRel (z : List Nat) (C top left S : Nat) (wk : World) (l i : Value) (wr : World) : Prop :=
  ∃ (k : Nat) (b : Option Addr) (cp : Nat), k ≤ S ∧ i = .int .i64 k ∧ l = .slice b (partZ z C top left S k).length cp ∧ OwnF wr wk.heap.size b cp (partZ z C top left S k) ∧ Below wk.heap.size wk wr
theorem lst_next {w wr w5 : World} {b a' : Option Addr} {cp c' m : Nat} {tl cl : List Nat} (ho : OwnF wr w.heap.size b cp tl) (hc : ∀ y ∈ cl, y < 2 ^ 32) (hm : cl.length = m)
    (hown : w5.ownsRow w.heap.size 23 1 (.slice a' (tl.length + m) c') (tl.length + m) (tl.map (Value.float .f32) ++ cl.map (Value.float .f32))) (hgr : wr.grownBy w5 (Value.ownBlock (.slice b tl.length cp)))
    (hl : Below w.heap.size w wr) : OwnF w5 w.heap.size a' c' (tl ++ cl) ∧ Below w.heap.size w w5 := by
  subst hm
  rw [ownBlock_slice] at hgr
  refine ⟨⟨by simpa using hown, fun y hy => ?_⟩, hl.grown hgr hl.size (fun g h => (ho.lt g h).1)⟩
  rcases List.mem_append.1 hy with h | h
  · exact ho.2 y h
  · exact hc y h
theorem pool_small {NR NC i k : Nat} (h1 : NR ≤ 16) (h2 : NC ≤ 16) (hi : i < NR) (hk : k < NC) : i * NC + k < 256 := by
  have e1 : (i + 1) * NC ≤ NR * NC := Nat.mul_le_mul_right NC hi
  have e2 : (i + 1) * NC = i * NC + NC := by rw [Nat.add_mul, Nat.one_mul]
  have e3 : NR * NC ≤ 16 * 16 := Nat.mul_le_mul h1 h2
  omega
theorem mul_fits {S NR R i : Nat} (h : R = S * NR) (hi : i < NR) : i * S + S ≤ R := by
  have e1 : S * (i + 1) ≤ S * NR := Nat.mul_le_mul_left S hi
  rw [Nat.mul_add, Nat.mul_one, Nat.mul_comm S i] at e1
  omega
theorem made_st1 {R C : Int} {f : Nat → Nat} {w w2 : World} (hb : Below w.heap.size w w2) (hq : Blk w2 w.heap.size 36 #[.int .i64 0, .int .i64 0, .slice none 0 0]) :
    MadeAt R C f w (.pointer (some ⟨w2.heap.size, 0, none⟩)) (((w2.alloc (.cells #[.int .i64 R, .int .i64 C, .slice (some ⟨w2.heap.size + 1, 0, none⟩) 0 0] 36)).alloc (.cells #[] 23)).drew) := by
  have b1 := ((Below.refl w2.heap.size w2).alloc (Nat.le_refl _) (.cells #[.int .i64 R, .int .i64 C, .slice (some ⟨w2.heap.size + 1, 0, none⟩) 0 0] 36)).alloc (by simp) (.cells #[] 23)
  have b2 := b1.drew
  refine ⟨_, rfl, some ⟨w2.heap.size + 1, 0, none⟩, 0, [], hq.lt, rfl, ?_, ⟨?_, fun _ h => by cases h⟩, rfl, Below.next hb b2, hq.below b2⟩
  · exact (Blk.new w2 36 #[.int .i64 R, .int .i64 C, .slice (some ⟨w2.heap.size + 1, 0, none⟩) 0 0]).below ((Below.refl _ _).alloc (Nat.le_refl _) (.cells #[] 23)).drew
  · have h := World.ownsRow_made (w2.alloc (.cells #[.int .i64 R, .int .i64 C, .slice (some ⟨w2.heap.size + 1, 0, none⟩) 0 0] 36)) #[] 0 (base := w.heap.size) (e := 23) (size := 1) (by simp; have := hb.size; omega) (by decide) rfl
    simp only [World.size_alloc] at h
    exact h
theorem made_st2 {R C : Int} {f : Nat → Nat} {w w2 : World} (hb : Below w.heap.size w w2) (hq : Blk w2 w.heap.size 36 #[.int .i64 0, .int .i64 0, .slice none 0 0]) :
    MadeAt R C f w (.pointer (some ⟨w2.heap.size + 1, 0, none⟩)) (((w2.alloc (.cells #[] 23)).alloc (.cells #[.int .i64 R, .int .i64 C, .slice (some ⟨w2.heap.size, 0, none⟩) 0 0] 36)).drew) := by
  have b1 := ((Below.refl w2.heap.size w2).alloc (Nat.le_refl _) (.cells #[] 23)).alloc (by simp) (.cells #[.int .i64 R, .int .i64 C, .slice (some ⟨w2.heap.size, 0, none⟩) 0 0] 36)
  have b2 := b1.drew
  refine ⟨_, rfl, some ⟨w2.heap.size, 0, none⟩, 0, [], by have := hq.lt; omega, rfl, ?_, ⟨?_, fun _ h => by cases h⟩, rfl, Below.next hb b2, hq.below b2⟩
  · have h := (Blk.new (w2.alloc (.cells #[] 23)) 36 #[.int .i64 R, .int .i64 C, .slice (some ⟨w2.heap.size, 0, none⟩) 0 0])
    simp only [World.size_alloc] at h
    exact h
  · have h := (World.ownsRow_made (base := w.heap.size) (e := 23) (size := 1) w2 #[] 0 hb.size (by decide) rfl).alloc (.cells #[.int .i64 R, .int .i64 C, .slice (some ⟨w2.heap.size, 0, none⟩) 0 0] 36)
    exact h
set_option maxRecDepth 20000 in
set_option maxHeartbeats 4000000 in
theorem c_l03PoolMost (g : Nat) (r c : Int) (z : List Nat) (s : Int) (a : Option Addr) (w : World) (h : IsFloats .f32 w a z.length z.length z) (hn : z.length ≤ 9223372036854775807)
    (h0 : w.cell? ⟨g, 0, none⟩ = some (.int .i64 r)) (h1 : w.cell? ⟨g, 1, none⟩ = some (.int .i64 c)) (h2 : w.cell? ⟨g, 2, none⟩ = some (.slice a z.length z.length)) :
    Calls Try.prog 80 #[.pointer (some ⟨g, 0, none⟩), .int .i64 s, .bool true] w (RetT (vPool gMost r c z s).1 (vPool gMost r c z s).2.1 (vPool gMost r c z s).2.2.1 (vPool gMost r c z s).2.2.2 w) := by
  have hg : g < w.heap.size := cell_block h0
  have HF := Lib.hid h
  have H0 := Lib.hid h0
  have H1 := Lib.hid h1
  have H2 := Lib.hid h2
  clear h h0 h1 h2
  cases e1 : vokB r c z.length with
  | false =>
    have E1 := Lib.hid e1
    have HX := Lib.hid (vPool_no (g := gMost) (z := z) (r := r) (c := c) (s := s) (by unfold okPool; rw [e1]; rfl))
    rw [HX.out]
    clear e1
    go_enter Try.func80, Try.ntmps80
    go_wp2_with fail
    have B_1 := Lib.hid ((Below.refl w.heap.size w).alloc (Nat.le_refl _) (.cells #[.int .i64 0, .int .i64 0, .slice none 0 0] 36))
    have Q_1 := Lib.hid (Blk.new w 36 #[.int .i64 0, .int .i64 0, .slice none 0 0])
    have c0 := (B_1.out.cell (p := ⟨g, 0, none⟩) hg).trans H0.out
    have c1 := (B_1.out.cell (p := ⟨g, 1, none⟩) hg).trans H1.out
    have c2 := (B_1.out.cell (p := ⟨g, 2, none⟩) hg).trans H2.out
    generalize w.alloc (.cells #[.int .i64 0, .int .i64 0, .slice none 0 0] 36) = w1 at B_1 Q_1 c0 c1 c2 ⊢
    refine (c_l02Is g 0 r c a z.length z.length false E1.out hn _ c0 c1 c2).mono ?_
    rintro e w2 ⟨rfl, dn⟩
    have bl := dn.below
    have B_2 := Lib.hid (Below.next B_1.out bl)
    have Q_2 := Lib.hid (Q_1.out.below bl)
    clear dn bl B_1 Q_1 c0 c1 c2
    have c0 := (B_2.out.cell (p := ⟨g, 0, none⟩) hg).trans H0.out
    have c1 := (B_2.out.cell (p := ⟨g, 1, none⟩) hg).trans H1.out
    have c2 := (B_2.out.cell (p := ⟨g, 2, none⟩) hg).trans H2.out
    obtain ⟨pQ0, pQ1, pQ2, pQ3⟩ := tb Q_2.out
    obtain ⟨fq0, fq1, fq2⟩ := tbf Q_2.out
    go_wp2_with fail
    exact bodyPost_ret (v := .tuple #[.agg #[.int .i64 0, .int .i64 0, .slice none 0 0], .bool false]) (by simp [results, Try.results80, go_sem, pQ0, pQ1, pQ2]) rfl ⟨none, 0, [], rfl, nil_own _ _, rfl, ((B_2.out.setCell (by simp) _).setCell (by simp) _).setCell (by simp) _⟩
  | true =>
    cases e2 : szB s with
    | false =>
      have E1 := Lib.hid e1
      have E2 : Hid ((decide ((1 : Int) ≤ s) && decide (s ≤ 8)) = false) := Lib.hid e2
      have HX := Lib.hid (vPool_no (g := gMost) (z := z) (r := r) (c := c) (s := s) (by unfold okPool; rw [e1, e2]; rfl))
      rw [HX.out]
      clear e1 e2
      go_enter Try.func80, Try.ntmps80
      go_wp2_with fail
      have B_1 := Lib.hid ((Below.refl w.heap.size w).alloc (Nat.le_refl _) (.cells #[.int .i64 0, .int .i64 0, .slice none 0 0] 36))
      have Q_1 := Lib.hid (Blk.new w 36 #[.int .i64 0, .int .i64 0, .slice none 0 0])
      have c0 := (B_1.out.cell (p := ⟨g, 0, none⟩) hg).trans H0.out
      have c1 := (B_1.out.cell (p := ⟨g, 1, none⟩) hg).trans H1.out
      have c2 := (B_1.out.cell (p := ⟨g, 2, none⟩) hg).trans H2.out
      generalize w.alloc (.cells #[.int .i64 0, .int .i64 0, .slice none 0 0] 36) = w1 at B_1 Q_1 c0 c1 c2 ⊢
      refine (c_l02Is g 0 r c a z.length z.length true E1.out hn _ c0 c1 c2).mono ?_
      rintro e w2 ⟨rfl, dn⟩
      have bl := dn.below
      have B_2 := Lib.hid (Below.next B_1.out bl)
      have Q_2 := Lib.hid (Q_1.out.below bl)
      clear dn bl B_1 Q_1 c0 c1 c2
      have c0 := (B_2.out.cell (p := ⟨g, 0, none⟩) hg).trans H0.out
      have c1 := (B_2.out.cell (p := ⟨g, 1, none⟩) hg).trans H1.out
      have c2 := (B_2.out.cell (p := ⟨g, 2, none⟩) hg).trans H2.out
      obtain ⟨pQ0, pQ1, pQ2, pQ3⟩ := tb Q_2.out
      obtain ⟨fq0, fq1, fq2⟩ := tbf Q_2.out
      go_wp2_with fail
      refine (c_l00In _ _ _ false E2.out _).mono ?_
      rintro e w' ⟨rfl, rfl⟩
      go_wp2_with fail
      exact bodyPost_ret (v := .tuple #[.agg #[.int .i64 0, .int .i64 0, .slice none 0 0], .bool false]) (by simp [results, Try.results80, go_sem, pQ0, pQ1, pQ2]) rfl ⟨none, 0, [], rfl, nil_own _ _, rfl, ((B_2.out.setCell (by simp) _).setCell (by simp) _).setCell (by simp) _⟩
    | true =>
      cases e3 : decide (r % s = 0) with
      | false =>
        have hr := ((vokB_iff r c z.length).1 e1).1
        have hc := ((vokB_iff r c z.length).1 e1).2.1
        have hs := (szB_iff s).1 e2
        have hs0 : ¬ s = 0 := by omega
        have hs1 : (s == 0) = false := by simpa using hs0
        have m1 : ¬ r.tmod s = 0 := rem_not e3 (by omega)
        have m1' : (r.tmod s != 0) = true := by simpa using m1
        have m2 : ¬ r % s = 0 := of_decide_eq_false e3
        have m2' : (r % s != 0) = true := by simpa using m2
        have E1 := Lib.hid e1
        have E2 : Hid ((decide ((1 : Int) ≤ s) && decide (s ≤ 8)) = true) := Lib.hid e2
        have HX := Lib.hid (vPool_no (g := gMost) (z := z) (r := r) (c := c) (s := s) (by unfold okPool; rw [e1, e2, e3]; rfl))
        rw [HX.out]
        clear e1 e2 e3
        go_enter Try.func80, Try.ntmps80
        go_wp2_with fail
        have B_1 := Lib.hid ((Below.refl w.heap.size w).alloc (Nat.le_refl _) (.cells #[.int .i64 0, .int .i64 0, .slice none 0 0] 36))
        have Q_1 := Lib.hid (Blk.new w 36 #[.int .i64 0, .int .i64 0, .slice none 0 0])
        have c0 := (B_1.out.cell (p := ⟨g, 0, none⟩) hg).trans H0.out
        have c1 := (B_1.out.cell (p := ⟨g, 1, none⟩) hg).trans H1.out
        have c2 := (B_1.out.cell (p := ⟨g, 2, none⟩) hg).trans H2.out
        generalize w.alloc (.cells #[.int .i64 0, .int .i64 0, .slice none 0 0] 36) = w1 at B_1 Q_1 c0 c1 c2 ⊢
        refine (c_l02Is g 0 r c a z.length z.length true E1.out hn _ c0 c1 c2).mono ?_
        rintro e w2 ⟨rfl, dn⟩
        have bl := dn.below
        have B_2 := Lib.hid (Below.next B_1.out bl)
        have Q_2 := Lib.hid (Q_1.out.below bl)
        clear dn bl B_1 Q_1 c0 c1 c2
        have c0 := (B_2.out.cell (p := ⟨g, 0, none⟩) hg).trans H0.out
        have c1 := (B_2.out.cell (p := ⟨g, 1, none⟩) hg).trans H1.out
        have c2 := (B_2.out.cell (p := ⟨g, 2, none⟩) hg).trans H2.out
        obtain ⟨pQ0, pQ1, pQ2, pQ3⟩ := tb Q_2.out
        obtain ⟨fq0, fq1, fq2⟩ := tbf Q_2.out
        go_wp2_with fail
        refine (c_l00In _ _ _ true E2.out _).mono ?_
        rintro e w' ⟨rfl, rfl⟩
        go_wp2_with fail
        exact bodyPost_ret (v := .tuple #[.agg #[.int .i64 0, .int .i64 0, .slice none 0 0], .bool false]) (by simp [results, Try.results80, go_sem, pQ0, pQ1, pQ2]) rfl ⟨none, 0, [], rfl, nil_own _ _, rfl, ((B_2.out.setCell (by simp) _).setCell (by simp) _).setCell (by simp) _⟩
      | true =>
        cases e4 : decide (c % s = 0) with
        | false =>
          have hr := ((vokB_iff r c z.length).1 e1).1
          have hc := ((vokB_iff r c z.length).1 e1).2.1
          have hs := (szB_iff s).1 e2
          have hs0 : ¬ s = 0 := by omega
          have hs1 : (s == 0) = false := by simpa using hs0
          have m1 : r.tmod s = 0 := rem_zero e3 (by omega)
          have m2 : r % s = 0 := of_decide_eq_true e3
          have m3 : ¬ c.tmod s = 0 := rem_not e4 (by omega)
          have m3' : (c.tmod s != 0) = true := by simpa using m3
          have m4 : ¬ c % s = 0 := of_decide_eq_false e4
          have m4' : (c % s != 0) = true := by simpa using m4
          have E1 := Lib.hid e1
          have E2 : Hid ((decide ((1 : Int) ≤ s) && decide (s ≤ 8)) = true) := Lib.hid e2
          have HX := Lib.hid (vPool_no (g := gMost) (z := z) (r := r) (c := c) (s := s) (by unfold okPool; rw [e1, e2, e3, e4]; rfl))
          rw [HX.out]
          clear e1 e2 e3 e4
          go_enter Try.func80, Try.ntmps80
          go_wp2_with fail
          have B_1 := Lib.hid ((Below.refl w.heap.size w).alloc (Nat.le_refl _) (.cells #[.int .i64 0, .int .i64 0, .slice none 0 0] 36))
          have Q_1 := Lib.hid (Blk.new w 36 #[.int .i64 0, .int .i64 0, .slice none 0 0])
          have c0 := (B_1.out.cell (p := ⟨g, 0, none⟩) hg).trans H0.out
          have c1 := (B_1.out.cell (p := ⟨g, 1, none⟩) hg).trans H1.out
          have c2 := (B_1.out.cell (p := ⟨g, 2, none⟩) hg).trans H2.out
          generalize w.alloc (.cells #[.int .i64 0, .int .i64 0, .slice none 0 0] 36) = w1 at B_1 Q_1 c0 c1 c2 ⊢
          refine (c_l02Is g 0 r c a z.length z.length true E1.out hn _ c0 c1 c2).mono ?_
          rintro e w2 ⟨rfl, dn⟩
          have bl := dn.below
          have B_2 := Lib.hid (Below.next B_1.out bl)
          have Q_2 := Lib.hid (Q_1.out.below bl)
          clear dn bl B_1 Q_1 c0 c1 c2
          have c0 := (B_2.out.cell (p := ⟨g, 0, none⟩) hg).trans H0.out
          have c1 := (B_2.out.cell (p := ⟨g, 1, none⟩) hg).trans H1.out
          have c2 := (B_2.out.cell (p := ⟨g, 2, none⟩) hg).trans H2.out
          obtain ⟨pQ0, pQ1, pQ2, pQ3⟩ := tb Q_2.out
          obtain ⟨fq0, fq1, fq2⟩ := tbf Q_2.out
          go_wp2_with fail
          refine (c_l00In _ _ _ true E2.out _).mono ?_
          rintro e w' ⟨rfl, rfl⟩
          go_wp2_with fail
          exact bodyPost_ret (v := .tuple #[.agg #[.int .i64 0, .int .i64 0, .slice none 0 0], .bool false]) (by simp [results, Try.results80, go_sem, pQ0, pQ1, pQ2]) rfl ⟨none, 0, [], rfl, nil_own _ _, rfl, ((B_2.out.setCell (by simp) _).setCell (by simp) _).setCell (by simp) _⟩
        | true =>
          have hok : okPool r c z.length s = true := by unfold okPool; rw [e1, e2, e3, e4]; rfl
          have hr := ((vokB_iff r c z.length).1 e1).1
          have hc := ((vokB_iff r c z.length).1 e1).2.1
          have hs := (szB_iff s).1 e2
          have hs0 : ¬ s = 0 := by omega
          have hs1 : (s == 0) = false := by simpa using hs0
          have m1 : r.tmod s = 0 := rem_zero e3 (by omega)
          have m2 : r % s = 0 := of_decide_eq_true e3
          have m3 : c.tmod s = 0 := rem_zero e4 (by omega)
          have m4 : c % s = 0 := of_decide_eq_true e4
          obtain ⟨R, C, S, NR, NC, rfl, rfl, rfl, a1', a2', a3', a4', s1, s2, hnn, hR, hC, n1, n2, n3, n4⟩ := pool_nat hok
          have E1 := Lib.hid e1
          have E2 : Hid ((decide ((1 : Int) ≤ (S : Int)) && decide ((S : Int) ≤ 8)) = true) := Lib.hid e2
          have HN := Lib.hid hnn
          have HR := Lib.hid hR
          have HC := Lib.hid hC
          have d1 : (R : Int) / (S : Int) = (NR : Int) := div_nat hR s1
          have d2 : (C : Int) / (S : Int) = (NC : Int) := div_nat hC s1
          have d3 : (R : Int).tdiv (S : Int) = (NR : Int) := by rw [Int.tdiv_eq_ediv_of_nonneg (by omega)]; exact d1
          have d4 : (C : Int).tdiv (S : Int) = (NC : Int) := by rw [Int.tdiv_eq_ediv_of_nonneg (by omega)]; exact d2
          have HX := Lib.hid (vPool_yes (g := gMost) hok hR hC s1)
          rw [HX.out]
          obtain ⟨F, hF⟩ : ∃ F, poolF (fun l => gMost l S) z C S NC = F := ⟨_, rfl⟩
          have HFF := Lib.hid (fun i k (hk : k < NC) => show F (i * NC + k) = gMost (partZ z C (i * S) (k * S) S S) S by
            rw [← hF]; unfold poolF
            rw [show (i * NC + k) / NC = i by rw [Nat.mul_comm, Nat.mul_add_div (by omega), Nat.div_eq_of_lt hk, Nat.add_zero], show (i * NC + k) % NC = k by rw [Nat.mul_comm, Nat.mul_add_mod, Nat.mod_eq_of_lt hk]])
          rw [hF]
          obtain ⟨i0, hi, hz0, hz1, hz2⟩ := info_parts info_f32
          have JI := Lib.hid hi
          have HZ0 := Lib.hid hz0
          have HZ1 := Lib.hid hz1
          have HZ2 := Lib.hid hz2
          clear e1 e2 e3 e4 hok hnn hR hC hF hi hz0 hz1 hz2
          go_enter Try.func80, Try.ntmps80
          go_wp2_with fail
          have B_1 := Lib.hid ((Below.refl w.heap.size w).alloc (Nat.le_refl _) (.cells #[.int .i64 0, .int .i64 0, .slice none 0 0] 36))
          have Q_1 := Lib.hid (Blk.new w 36 #[.int .i64 0, .int .i64 0, .slice none 0 0])
          have c0 := (B_1.out.cell (p := ⟨g, 0, none⟩) hg).trans H0.out
          have c1 := (B_1.out.cell (p := ⟨g, 1, none⟩) hg).trans H1.out
          have c2 := (B_1.out.cell (p := ⟨g, 2, none⟩) hg).trans H2.out
          generalize w.alloc (.cells #[.int .i64 0, .int .i64 0, .slice none 0 0] 36) = w1 at B_1 Q_1 c0 c1 c2 ⊢
          refine (c_l02Is g 0 (R : Int) (C : Int) a z.length z.length true E1.out hn _ c0 c1 c2).mono ?_
          rintro e w2 ⟨rfl, dn⟩
          have bl := dn.below
          have B_2 := Lib.hid (Below.next B_1.out bl)
          have Q_2 := Lib.hid (Q_1.out.below bl)
          clear dn bl B_1 Q_1 c0 c1 c2
          have c0 := (B_2.out.cell (p := ⟨g, 0, none⟩) hg).trans H0.out
          have c1 := (B_2.out.cell (p := ⟨g, 1, none⟩) hg).trans H1.out
          have c2 := (B_2.out.cell (p := ⟨g, 2, none⟩) hg).trans H2.out
          obtain ⟨pQ0, pQ1, pQ2, pQ3⟩ := tb Q_2.out
          obtain ⟨fq0, fq1, fq2⟩ := tbf Q_2.out
          go_wp2_with fail
          refine (c_l00In _ _ _ true E2.out _).mono ?_
          rintro e w' ⟨rfl, rfl⟩
          go_upto_region 3 with fail
          have y1 : IntKind.i64.wrap (NR : Int) = (NR : Int) := IntWalk.i64_in _ (by omega)
          have y2 : IntKind.i64.wrap (NC : Int) = (NC : Int) := IntWalk.i64_in _ (by omega)
          have HBQ := Lib.hid (And.intro B_2.out Q_2.out)
          have gg1 : g < w2.heap.size := by have := Q_2.out.lt; omega
          have gg2 : g < w2.heap.size + 1 := by omega
          have gg3 : g < w2.heap.size + 1 + 1 := by omega
          have nS : ¬ S = 0 := by omega
          clear B_2 Q_2
          go_cut [8] (fun s wx => MadeAt NR NC F w s wx)
          case first =>
            go_region
            all_goals (go_wp2_with fail; go_meet; first | exact made_st1 HBQ.out.1 HBQ.out.2 | exact made_st2 HBQ.out.1 HBQ.out.2)
          case rest =>
            obtain ⟨gb, rfl, hm⟩ := hcut
            have HM := Lib.hid hm
            clear hm c0 c1 c2 pQ0 pQ1 pQ2 pQ3 fq0 fq1 fq2 y1 y2 d1 d2 d3 d4 m1 m2 m3 m4 gg1 gg2 gg3 nS
            go_wp2_with fail
            go_loopw [9] (fun i wr => ∃ k : Nat, k ≤ NR ∧ i = .int .i64 k ∧ Made NR NC F (k * NC) gb w wr) (fun i _ => NR - (intOf i).toNat)
            case atStart => exact ⟨0, Nat.zero_le _, rfl, by rw [Nat.zero_mul]; exact HM.out⟩
            case round =>
              obtain ⟨i, hi, rfl, hmade⟩ := hrel
              have HMD := Lib.hid hmade
              have hi0 : (0 : Int) ≤ (i : Int) := by omega
              obtain ⟨b, cp, ys, hgb, hy, hb, ho, he, hl, hr'⟩ := hmade
              by_cases hlt : i < NR
              · have hlt' : (i : Int) < (NR : Int) := by omega
                obtain ⟨q0, q1, q2, q3⟩ := tb hb
                obtain ⟨wo, hwo⟩ : ∃ wo : World, wo = wr := ⟨_, rfl⟩
                subst hwo
                clear hy hb ho he hl hr'
                go_wp2_with fail
                clear q0 q1 q2 q3
                go_loopw [10] (fun kk wq => ∃ k : Nat, k ≤ NC ∧ kk = .int .i64 k ∧ Made NR NC F (i * NC + k) gb w wq) (fun kk _ => NC - (intOf kk).toNat)
                case atStart => exact ⟨0, Nat.zero_le _, rfl, by rw [Nat.add_zero]; exact HMD.out⟩
                case round =>
                  obtain ⟨k, hk, rfl, b, cp, ys, hgb, hy, hb, ho, he, hl, hr'⟩ := hrel
                  have hk0 : (0 : Int) ≤ (k : Int) := by omega
                  have HB := Lib.hid hb
                  have HO := Lib.hid ho
                  have HE := Lib.hid he
                  have HL := Lib.hid hl
                  have HY := Lib.hid hy
                  have HRR := Lib.hid hr'
                  obtain ⟨q0, q1, q2, q3⟩ := tb hb
                  clear hb ho he hl hy hr'
                  by_cases hlk : k < NC
                  · have hlk' : (k : Int) < (NC : Int) := by omega
                    have t1 := mul_fits HR.out hlt
                    have t2 := mul_fits HC.out hlk
                    have HSM := Lib.hid (pool_small n3 n4 hlt hlk)
                    obtain ⟨TP, hTP⟩ : ∃ TP, i * S = TP := ⟨_, rfl⟩
                    obtain ⟨LF, hLF⟩ : ∃ LF, k * S = LF := ⟨_, rfl⟩
                    have HFV := Lib.hid (HFF.out i k hlk)
                    rw [hTP, hLF] at HFV
                    rw [hTP] at t1
                    rw [hLF] at t2
                    have tp1 : IntKind.i64.wrap ((i : Int) * (S : Int)) = (TP : Int) := by rw [show (i : Int) * (S : Int) = (TP : Int) by rw [← hTP]; push_cast; rfl]; exact IntWalk.i64_in _ (by omega)
                    have tp2 : IntKind.i64.wrap ((k : Int) * (S : Int)) = (LF : Int) := by rw [show (k : Int) * (S : Int) = (LF : Int) by rw [← hLF]; push_cast; rfl]; exact IntWalk.i64_in _ (by omega)
                    clear hTP hLF
                    obtain ⟨wk, hwk⟩ : ∃ wk : World, wk = wr := ⟨_, rfl⟩
                    subst hwk
                    have hgk : g < wk.heap.size := Nat.lt_of_lt_of_le hg HL.out.size
                    have HMK := Lib.hid (show Made NR NC F (i * NC + k) gb w wk from ⟨b, cp, ys, hgb, HY.out, HB.out, HO.out, HE.out, HL.out, HRR.out⟩)
                    have HP1 := Lib.hid ((HL.out.cell (p := ⟨g, 1, none⟩) hg).trans H1.out)
                    have HP2 := Lib.hid ((HL.out.cell (p := ⟨g, 2, none⟩) hg).trans H2.out)
                    have HLK := Lib.hid HL.out
                    clear HB HO HE HL HY HRR hgb
                    go_wp2_with fail
                    clear q0 q1 q2 q3
                    go_loopw [11, 12] (fun s u wq => ListRel z C TP LF S wk s u wq) (fun _ u _ => S - (intOf u).toNat)
                    case atStart => exact ⟨0, some ⟨wk.heap.size, 0, none⟩, 0, Nat.zero_le _, rfl, rfl, ⟨World.ownsRow_made wk #[] 0 (Nat.le_refl _) (by decide) rfl, fun _ h => by cases h⟩, (Below.refl _ _).alloc (Nat.le_refl _) _⟩
                    case round =>
                      obtain ⟨u, lb, lc, hu, rfl, rfl, lo', lbl⟩ := hrel
                      have LO := Lib.hid lo'
                      have LBL := Lib.hid lbl
                      have hu0 : (0 : Int) ≤ (u : Int) := by omega
                      have p1 : wr.cell? ⟨g, 1, none⟩ = some (.int .i64 C) := (lbl.cell (p := ⟨g, 1, none⟩) hgk).trans HP1.out
                      have p2 : wr.cell? ⟨g, 2, none⟩ = some (.slice a z.length z.length) := (lbl.cell (p := ⟨g, 2, none⟩) hgk).trans HP2.out
                      clear lo' lbl
                      by_cases hlu : u < S
                      · have hlu' : (u : Int) < (S : Int) := by omega
                        obtain ⟨f1, f2, f3, f4⟩ := part_fits a4' a2' t1 t2 HN.out hlu
                        have HTL := Lib.hid (partZ_length a4' a2' t1 t2 HN.out u hu)
                        obtain ⟨P, hP⟩ : ∃ P, (TP + u) * C = P := ⟨_, rfl⟩
                        rw [hP] at f1 f3 f4
                        obtain ⟨pb, off, rfl⟩ : ∃ pb off, a = some ⟨pb, off, none⟩ := by
                          rcases HF.out.2.2.2.2 with h' | ⟨b', off', rfl, _⟩
                          · omega
                          · exact ⟨b', off', rfl⟩
                        obtain ⟨lo, hlo⟩ : ∃ lo, P + LF = lo := ⟨_, rfl⟩
                        have hhi : lo + S ≤ z.length := by omega
                        have fP := ((HF.out.kept HLK.out).kept LBL.out).part lo (lo + S) (by omega) hhi (z.length - lo) (by omega) (by have := HF.out.2.1; omega)
                        rw [Nat.add_sub_cancel_left] at fP
                        have FP : Hid (IsFloats .f32 wr (some ⟨pb, off + lo, none⟩) S (z.length - lo) ((z.drop lo).take S)) := Lib.hid (by simpa [add_plain] using fP)
                        have HS2 := Lib.hid (show partZ z C TP LF S (u + 1) = partZ z C TP LF S u ++ (z.drop lo).take S by rw [partZ_succ, hP, hlo])
                        have hkc : u * S + S ≤ 64 := by
                          have e1 : (u + 1) * S ≤ S * S := Nat.mul_le_mul_right S hlu
                          have e2 : (u + 1) * S = u * S + S := by rw [Nat.add_mul, Nat.one_mul]
                          have e3 : S * S ≤ 8 * 8 := Nat.mul_le_mul (by omega) (by omega)
                          omega
                        have HCL := Lib.hid FP.out.2.2.1
                        have A1 := Lib.hid (show (partZ z C TP LF S u).length + S ≤ 64 by rw [HTL.out]; exact hkc)
                        obtain ⟨tl, htl⟩ : ∃ tl, partZ z C TP LF S u = tl := ⟨_, rfl⟩
                        obtain ⟨cl, hcl⟩ : ∃ cl, (z.drop lo).take S = cl := ⟨_, rfl⟩
                        rw [htl] at LO HS2 HTL A1 ⊢
                        rw [hcl] at FP HS2 HCL
                        have hn256 : z.length ≤ 256 := f2
                        have x2 : IntKind.i64.wrap ((TP : Int) + (u : Int)) = (TP : Int) + (u : Int) := IntWalk.i64_in _ (by omega)
                        have x3 : IntKind.i64.wrap (((TP : Int) + (u : Int)) * (C : Int)) = (P : Int) := by rw [f3]; exact IntWalk.i64_in _ (by omega)
                        have x5 : IntKind.i64.wrap ((P : Int) + (LF : Int)) = (lo : Int) := by rw [show (P : Int) + (LF : Int) = (lo : Int) by omega]; exact IntWalk.i64_in _ (by omega)
                        have x6 : IntKind.i64.wrap ((lo : Int) + (S : Int)) = (lo : Int) + (S : Int) := IntWalk.i64_in _ (by omega)
                        have v0 : (0 : Int) ≤ (lo : Int) := by omega
                        have v2 : (lo : Int) + (S : Int) ≤ (z.length : Int) := by omega
                        have v3 : (lo : Int) ≤ (lo : Int) + (S : Int) := by omega
                        have v4 : ((lo : Int) + (S : Int)).toNat = lo + S := by omega
                        have hne : ¬ z.length = lo := by omega
                        clear fP htl hcl hkc hP f1 f2 f3 f4 hlo hhi
                        go_wp2_with (at_builtin; refine wpList_append_any _ rfl (.tmp 89) (.tmp 98) _ rfl wk.heap.size 23 i0 _ 1 4 Try.underlying22 JI.out HZ0.out HZ1.out HZ2.out rfl (by omega) (.slice lb tl.length lc) tl.length _ rfl LO.out.1 _ _ S (z.length - lo) _ rfl FP.out.reads (ones_f32 _) ?c1 ?c2 (LBL.out.size) ?_)
                        case c1 => have := A1.out; unfold maxLen; omega
                        case c2 => have := A1.out; omega
                        intro v' w5 hown hgr hat
                        obtain ⟨a', c', rfl⟩ := ownsRow_slice hown
                        have HNX := Lib.hid (lst_next LO.out FP.out.2.2.2.1 HCL.out hown hgr LBL.out)
                        clear hown hgr hat p1 p2 x2 x3 x5 x6 v0 v2 v3 v4 hne
                        go_wp2_with fail
                        go_roundw
                        case rel => exact ⟨u + 1, a', c', by omega, by go_num, by rw [HS2.out, List.length_append, HCL.out], by rw [HS2.out]; exact HNX.out.1, HNX.out.2⟩
                        case measure => simp [intOf]; omega
                      · obtain rfl : u = S := by omega
                        have HLN := Lib.hid (partZ_length a4' a2' t1 t2 HN.out u hu)
                        obtain ⟨l, hl⟩ : ∃ l, partZ z C TP LF u u = l := ⟨_, rfl⟩
                        rw [hl] at LO HFV HLN ⊢
                        have hl1 : 1 ≤ l.length := by rw [HLN.out]; exact Nat.mul_le_mul s1 s1
                        have hl2 : l.length ≤ 64 := by rw [HLN.out]; exact Nat.mul_le_mul s2 s2
                        have FL := Lib.hid LO.out.isFloats
                        have HMW := Lib.hid (HMK.out.later LBL.out)
                        clear hl LBL HMK HP1 HP2 HLK p1 p2 tp1 tp2
                        obtain ⟨wl, hwl⟩ : ∃ wl : World, wl = wr := ⟨_, rfl⟩
                        subst hwl
                        obtain ⟨pl, off, rfl⟩ : ∃ pb off, lb = some ⟨pb, off, none⟩ := by
                          rcases FL.out.2.2.2.2 with h' | ⟨b', off', rfl, _⟩
                          · omega
                          · exact ⟨b', off', rfl⟩
                        have HCE : Hid (∀ j, j < l.length → wl.cell? ⟨pl, off + j, none⟩ = some (.float .f32 (l.getD j 0))) := Lib.hid (by
                          rcases FL.out.2.2.2.2 with h' | ⟨b', off', e, _, hc⟩
                          · omega
                          · cases e; exact hc)
                        have c0 : wl.cell? ⟨pl, off, none⟩ = some (.float .f32 (l.getD 0 0)) := HCE.out 0 hl1
                        have hl0 : (0 : Int) < (l.length : Int) := by omega
                        obtain ⟨x0, hx0⟩ : ∃ x, l.getD 0 0 = x := ⟨_, rfl⟩
                        rw [hx0] at c0
                        have HX0 := Lib.hid hx0
                        clear hx0
                        go_wp2_with fail
                        clear c0
                        go_loopw [14, 15] (fun s j wq => wq = wl ∧ ∃ m : Nat, 1 ≤ m ∧ m ≤ l.length ∧ j = .int .i64 m ∧ s = .float .f32 (l.getD (gixF (fun q => l.getD q 0) m) 0)) (fun _ j _ => l.length - (intOf j).toNat)
                        case atStart => exact ⟨rfl, 1, Nat.le_refl _, hl1, rfl, by rw [gixF_one]; exact congrArg _ HX0.out.symm⟩
                        case round =>
                          obtain ⟨hw, m, hm1, hm2, rfl, rfl⟩ := hrel
                          subst hw
                          have hm0 : (0 : Int) ≤ (m : Int) := by omega
                          have HYY := fun h => gixF_yes (f := fun q => l.getD q 0) (k := m) h
                          have HNN := fun h => gixF_no (f := fun q => l.getD q 0) (k := m) h
                          have hq := gixF_lt (fun q => l.getD q 0) hm1
                          obtain ⟨q, hqq⟩ : ∃ q, gixF (fun q => l.getD q 0) m = q := ⟨_, rfl⟩
                          rw [hqq] at hq HYY HNN ⊢
                          have HQ := Lib.hid hqq
                          have HY' := Lib.hid HYY
                          have HN' := Lib.hid HNN
                          clear hqq HYY HNN
                          by_cases hml : m < l.length
                          · have hml' : (m : Int) < (l.length : Int) := by omega
                            have c1 := HCE.out m hml
                            cases hgt : (FloatKind.f32.format.order (l.getD m 0) (l.getD q 0) == some .gt) with
                            | true =>
                              have HG := Lib.hid (HY'.out hgt)
                              obtain ⟨x, hx⟩ : ∃ x, l.getD m 0 = x := ⟨_, rfl⟩
                              obtain ⟨y, hy⟩ : ∃ y, l.getD q 0 = y := ⟨_, rfl⟩
                              rw [hx] at c1 hgt
                              rw [hy] at hgt ⊢
                              have HX := Lib.hid hx
                              have HYV := Lib.hid hy
                              clear hx hy HY' HN' HQ
                              go_wp2_with fail
                              go_roundw
                              case rel => first | exact ⟨rfl, m + 1, by omega, by omega, by go_num, by rw [HG.out]; exact congrArg _ HX.out.symm⟩ | exact ⟨trivial, m + 1, by omega, by omega, by go_num, by rw [HG.out]; exact congrArg _ HX.out.symm⟩
                              case measure => simp [intOf]; omega
                            | false =>
                              have HG := Lib.hid (HN'.out hgt)
                              obtain ⟨x, hx⟩ : ∃ x, l.getD m 0 = x := ⟨_, rfl⟩
                              obtain ⟨y, hy⟩ : ∃ y, l.getD q 0 = y := ⟨_, rfl⟩
                              rw [hx] at c1 hgt
                              rw [hy] at hgt ⊢
                              have HX := Lib.hid hx
                              have HYV := Lib.hid hy
                              clear hx hy HY' HN' HQ
                              go_wp2_with fail
                              go_roundw
                              case rel => first | exact ⟨rfl, m + 1, by omega, by omega, by go_num, by rw [HG.out]; exact congrArg _ HYV.out.symm⟩ | exact ⟨trivial, m + 1, by omega, by omega, by go_num, by rw [HG.out]; exact congrArg _ HYV.out.symm⟩
                              case measure => simp [intOf]; omega
                          · obtain rfl : m = l.length := by omega
                            have hvv : l.getD q 0 < 2 ^ 32 := by have e := List.getElem?_eq_getElem hq; simp only [List.getD, e, Option.getD_some]; exact LO.out.2 _ (List.getElem_mem hq)
                            have hcn : canon .f32 (l.getD q 0) = F (i * NC + k) := by rw [HFV.out]; unfold gMost; rw [HQ.out]
                            obtain ⟨v, hv⟩ : ∃ v, l.getD q 0 = v := ⟨_, rfl⟩
                            rw [hv] at hvv hcn ⊢
                            have HVV := Lib.hid hvv
                            have HCN := Lib.hid hcn
                            obtain ⟨b, cp, ys, hgb, hy, hb, ho, he, hlw, hr'⟩ := HMW.out
                            have HB := Lib.hid hb
                            have HO := Lib.hid ho
                            have HE := Lib.hid he
                            have HL := Lib.hid hlw
                            have HY := Lib.hid hy
                            have HRR := Lib.hid hr'
                            have HYn := Lib.hid (show ys.length < 256 by rw [hy]; exact HSM.out)
                            have A1 := Lib.hid (show ys.length + 1 ≤ maxLen by have := HYn.out; unfold maxLen; omega)
                            have A2 := Lib.hid (show (ys.length + 1) * 4 ≤ 140737488355328 by have := HYn.out; omega)
                            have A3 := Lib.hid HL.out.size
                            obtain ⟨q0, q1, q2, q3⟩ := tb hb
                            clear hvv hcn hv hb ho he hlw hy hr' HMW HCE HY' HN' HQ HFV
                            go_wp2_with (at_builtin; refine wpList_append_any _ rfl (.tmp 129) (.tmp 131) 22 rfl w.heap.size 23 i0 (.float .f32 0) 1 4 Try.underlying22 JI.out HZ0.out HZ1.out HZ2.out rfl Nat.one_pos (.slice b ys.length cp) ys.length (ys.map (Value.float .f32)) rfl (made_own (m := 0) HO.out) (wr.heap.size + 1) (some ⟨wr.heap.size, 0, none⟩) 1 1 [.float .f32 v] rfl (made_reads (m := 0)) (one_f32 _) A1.out A2.out (made_base (m := 0) A3.out) ?_)
                            intro v' w' hown hgr hat
                            obtain ⟨a', c', rfl⟩ := ownsRow_slice hown
                            obtain ⟨⟨z1, z2⟩, hmade⟩ := made_app (m := 0) hgb HB.out HO.out HL.out HRR.out HE.out HY.out HVV.out HCN.out hown hgr
                            have HMD3 := Lib.hid hmade
                            clear hown hgr hat hmade q0 q1 q2 q3
                            go_wp2_with fail
                            go_roundw
                            case rel => first | exact ⟨k + 1, by omega, by go_num, HMD3.out⟩ | ((repeat apply Exists.intro); exact ⟨⟨k + 1, by omega, by go_num, HMD3.out⟩, rfl⟩)
                            case measure => simp [intOf]; omega
                  · obtain rfl : k = NC := by omega
                    have HMD2 := Lib.hid (show Made NR k F ((i + 1) * k) gb w wr by rw [Nat.add_mul, Nat.one_mul]; exact ⟨b, cp, ys, hgb, HY.out, HB.out, HO.out, HE.out, HL.out, HRR.out⟩)
                    go_wp2_with fail
                    go_roundw
                    case rel => exact ⟨i + 1, by omega, by go_num, HMD2.out⟩
                    case measure => simp [intOf]; omega
              · obtain rfl : i = NR := by omega
                have HO := Lib.hid ho
                have HE := Lib.hid he
                have HL := Lib.hid hl
                have KQ := Lib.hid hr'
                obtain ⟨q0, q1, q2, q3⟩ := tb hb
                obtain ⟨v0, v1, v2, v3⟩ := tb hr'
                obtain ⟨e0, e1, e2⟩ := tbf hr'
                clear hy hb ho he hl hr'
                go_wp2_with fail
                exact bodyPost_ret (v := .tuple #[.agg #[.int .i64 i, .int .i64 NC, .slice b ys.length cp], .bool true]) (by simp [results, Try.results80, go_sem, v0, v1, v2]) rfl ⟨b, cp, ys, rfl, HO.out.off (store3 KQ.out).2 KQ.out (by decide), HE.out, ((HL.out.setCell (by simp) _).setCell (by simp) _).setCell (by simp) _⟩
end Go.Proofs.Ytaonfaeinoackaa
