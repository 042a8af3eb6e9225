/-
  The model's two lists of a loss: one grows, the other one is changed in place; absolute values. Conditions: none.
-/
import Derived.Test.YtaklcmibpnpffaaLoss
import Derived.Test.YtaklcmibpnpffaaBfloat
namespace Go.Proofs.Ytaklcmibpnpffaa
open Go.RowKit Go.Deep Go.WideShapes Go.ChangeShapes
set_option linter.unusedVariables false

def MixAt (f1 f2 : Nat → Nat) (ds : List Nat) (a : Option Addr) (c k : Nat) (w : World) (b : Option Addr) (cp : Nat) (ps qs : List Nat) (wr : World) : Prop :=
  OwnF wr w.heap.size b cp ps ∧ OwnF wr w.heap.size a c (qs ++ ds.drop k) ∧ (∀ g, blk a = some g → blk b ≠ some g) ∧ ps.map (canon .f32) = (List.range ps.length).map f1 ∧ qs.map (canon .f32) = (List.range k).map f2 ∧ Below w.heap.size w wr
def Mix (f1 f2 : Nat → Nat) (ds : List Nat) (a : Option Addr) (c : Nat) (w : World) (s i : Value) (wr : World) : Prop :=
  ∃ (k : Nat) (b : Option Addr) (cp : Nat) (ps qs : List Nat), k ≤ ds.length ∧ i = .int .i64 k ∧ s = .slice b ps.length cp ∧ ps.length = k ∧ qs.length = k ∧ MixAt f1 f2 ds a c k w b cp ps qs wr
theorem mix_first {f1 f2 : Nat → Nat} {ds : List Nat} {a : Option Addr} {c : Nat} {w wr : World} {T : TypeId} (hT : T = 22) (h : OwnF wr w.heap.size a c ds) (hb : Below w.heap.size w wr) :
    Mix f1 f2 ds a c w (.slice (some ⟨wr.heap.size, 0, none⟩) 0 0) (.int .i64 0) (wr.alloc (.cells #[] T)) := by
  subst hT
  refine ⟨0, _, 0, [], [], Nat.zero_le _, rfl, rfl, rfl, rfl, ⟨World.ownsRow_made wr #[] 0 hb.size (by unfold maxLen; omega) rfl, fun _ h => by cases h⟩, ?_, ?_, rfl, rfl, hb.alloc hb.size _⟩
  · simpa using h.kept ((Below.refl _ _).alloc (Nat.le_refl _) _)
  · intro g hg e
    have := (h.lt g hg).2
    simp only [blk, Option.map_some, Option.some.injEq] at e
    omega
/-- behind an append -/
theorem mix_grown {f1 f2 : Nat → Nat} {ds ps qs : List Nat} {a b a' : Option Addr} {c k cp cp' m v : Nat} {w wr w' : World} (h : MixAt f1 f2 ds a c k w b cp ps qs wr) (hv : v < 2 ^ 32) (hc : canon .f32 v = f1 ps.length)
    (hown : w'.ownsRow w.heap.size 22 1 (.slice a' (ps.length + 1) cp') (ps.length + 1) (ps.map (Value.float .f32) ++ [.float .f32 v])) (hg : ((wr.drewN m).alloc (.cells #[.float .f32 v] 22)).grownBy w' (Value.ownBlock (.slice b ps.length cp)))
    (hat : Value.ownBlock (.slice a' (ps.length + 1) cp') = Value.ownBlock (.slice b ps.length cp) ∨ Value.ownBlock (.slice a' (ps.length + 1) cp') = some ((wr.drewN m).alloc (.cells #[.float .f32 v] 22)).heap.size) :
    MixAt f1 f2 ds a c k w a' cp' (ps ++ [v]) qs w' := by
  obtain ⟨h1, h2, h3, h4, h5, h6⟩ := h
  have hgr := grow_below h1 hg
  obtain ⟨k', a2, c2, ys, _, _, es, ey, ho, he, hl⟩ := grow_next (f := f1) (n := ps.length + 1) (k := ps.length) (Nat.lt_succ_self _) h1 (Nat.le_refl _) h6 h4 rfl hv hc hown hg
  refine ⟨⟨by simpa using hown, fun y hy => ?_⟩, h2.apart hgr h3, ?_, ?_, h5, hl⟩
  · rcases List.mem_append.1 hy with h | h
    · exact h1.2 y h
    · simp at h; subst h; exact hv
  · intro g hga e
    rw [ownBlock_slice, ownBlock_slice] at hat
    rcases hat with hat | hat
    · rw [hat] at e; exact h3 g hga e
    · rw [hat] at e
      have := (h2.lt g hga).2
      rw [World.size_alloc] at e
      injection e with e
      have e2 : (wr.drewN m).heap.size = wr.heap.size := rfl
      omega
  · rw [List.map_append, h4, List.length_append, List.length_singleton, List.range_succ, List.map_append]
    simp [hc]
theorem grow_own0 {B : Nat} {wr : World} {b : Option Addr} {cp v : Nat} {ys : List Nat} (ho : OwnF wr B b cp ys) : (wr.alloc (.cells #[.float .f32 v] 22)).ownsRow B 22 1 (.slice b ys.length cp) ys.length (ys.map (Value.float .f32)) := (ho.kept ((Below.refl _ _).alloc (Nat.le_refl _) _)).1
theorem grow_reads0 {wr : World} {v : Nat} : Reads (wr.alloc (.cells #[.float .f32 v] 22)) (wr.heap.size + 1) 1 (some ⟨wr.heap.size, 0, none⟩) 1 [.float .f32 v] := by
  have h := grow_reads (wr := wr) (m := 0) (v := v)
  rw [World.drewN_zero] at h
  exact h
theorem grow_base0 {B : Nat} {wr : World} {v : Nat} (h : B ≤ wr.heap.size) : B ≤ (wr.alloc (.cells #[.float .f32 v] 22)).heap.size := by
  rw [World.size_alloc]; exact Nat.le_trans h (Nat.le_succ _)
theorem mix_grown0 {f1 f2 : Nat → Nat} {ds ps qs : List Nat} {a b a' : Option Addr} {c k cp cp' v : Nat} {w wr w' : World} (h : MixAt f1 f2 ds a c k w b cp ps qs wr) (hv : v < 2 ^ 32) (hc : canon .f32 v = f1 ps.length)
    (hown : w'.ownsRow w.heap.size 22 1 (.slice a' (ps.length + 1) cp') (ps.length + 1) (ps.map (Value.float .f32) ++ [.float .f32 v])) (hg : (wr.alloc (.cells #[.float .f32 v] 22)).grownBy w' (Value.ownBlock (.slice b ps.length cp)))
    (hat : Value.ownBlock (.slice a' (ps.length + 1) cp') = Value.ownBlock (.slice b ps.length cp) ∨ Value.ownBlock (.slice a' (ps.length + 1) cp') = some (wr.alloc (.cells #[.float .f32 v] 22)).heap.size) :
    MixAt f1 f2 ds a c k w a' cp' (ps ++ [v]) qs w' := mix_grown (m := 0) h hv hc hown (by rw [World.drewN_zero]; exact hg) (by rw [World.drewN_zero]; exact hat)
theorem MixAt.kept {f1 f2 : Nat → Nat} {ds ps qs : List Nat} {a b : Option Addr} {c k cp : Nat} {w wr w' : World} (h : MixAt f1 f2 ds a c k w b cp ps qs wr) (hb : Below wr.heap.size wr w') : MixAt f1 f2 ds a c k w b cp ps qs w' := by
  obtain ⟨h1, h2, h3, h4, h5, h6⟩ := h
  exact ⟨h1.kept hb, h2.kept hb, h3, h4, h5, h6.trans (hb.mono h6.size)⟩
theorem mix_lt {f1 f2 : Nat → Nat} {ds ps qs : List Nat} {a b : Option Addr} {c k cp : Nat} {w wr : World} (h : MixAt f1 f2 ds a c k w b cp ps qs wr) (hk : k < ds.length) (hq : qs.length = k) : ∃ g, a = some ⟨g, 0, none⟩ ∧ w.heap.size ≤ g ∧ g < wr.heap.size := own_some h.2.1 (by rw [upd_length (Nat.le_of_lt hk) hq]; omega)
theorem mix_cell {f1 f2 : Nat → Nat} {ds ps qs : List Nat} {b : Option Addr} {g c k cp : Nat} {w wr : World} (h : MixAt f1 f2 ds (some ⟨g, 0, none⟩) c k w b cp ps qs wr) (hk : k < ds.length) (hq : qs.length = k) : wr.cell? ⟨g, k, none⟩ = some (.float .f32 (ds.getD k 0)) ∧ wr.frozen? ⟨g, k, none⟩ = false := by
  have h1 := own_cell (k := k) h.2.1 (by rw [upd_length (Nat.le_of_lt hk) hq]; omega)
  rw [upd_at hq] at h1
  exact h1
/-- number k is set -/
theorem mix_set {f1 f2 : Nat → Nat} {ds ps qs : List Nat} {b : Option Addr} {g c k cp v : Nat} {w wr w2 : World} (h : MixAt f1 f2 ds (some ⟨g, 0, none⟩) c k w b cp ps qs wr) (hk : k < ds.length) (hp : ps.length = k + 1) (hq : qs.length = k) (hb : Below wr.heap.size wr w2) (hv : v < 2 ^ 32) (hc : canon .f32 v = f2 k) :
    Mix f1 f2 ds (some ⟨g, 0, none⟩) c w (.slice b ps.length cp) (.int .i64 ((k : Int) + 1)) (w2.setCell ⟨g, k, none⟩ (.float .f32 v)) := by
  obtain ⟨h1, h2, h3, h4, h5, h6⟩ := h.kept hb
  have hb0 := h.2.2.2.2.2
  obtain ⟨k2, qs', hk2, hi2, hp2, o2, q2, b2⟩ := upd_next hk hq h2 h5 h6 (Below.refl _ _) h6.size hv hc
  have hk3 : k2 = k + 1 := by simp only [Value.int.injEq, true_and] at hi2; omega
  subst hk3
  exact ⟨k + 1, b, cp, ps, qs', hk, by go_num, rfl, hp, hp2, far_set h1 (fun j hj e => by subst e; exact h3 _ rfl hj), o2, h3, h4, q2, b2⟩
/-- number k stays -/
theorem mix_stay {f1 f2 : Nat → Nat} {ds ps qs : List Nat} {a b : Option Addr} {c k cp : Nat} {w wr : World} (h : MixAt f1 f2 ds a c k w b cp ps qs wr) (hk : k < ds.length) (hp : ps.length = k + 1) (hq : qs.length = k) (hc : canon .f32 (ds.getD k 0) = f2 k) :
    Mix f1 f2 ds a c w (.slice b ps.length cp) (.int .i64 ((k : Int) + 1)) wr := by
  obtain ⟨h1, h2, h3, h4, h5, h6⟩ := h
  refine ⟨k + 1, b, cp, ps, qs ++ [ds.getD k 0], hk, by go_num, rfl, hp, by simp [hq], h1, ?_, h3, h4, ?_, h6⟩
  · have e : qs ++ ds.drop k = (qs ++ [ds.getD k 0]) ++ ds.drop (k + 1) := by
      rw [List.drop_eq_getElem_cons hk]
      simp [List.getD, hk]
    rw [e] at h2
    exact h2
  · rw [List.map_append, h5, List.range_succ, List.map_append, List.map_singleton, hc, List.map_singleton]

theorem mix_set' {f1 f2 : Nat → Nat} {ds ps qs : List Nat} {b : Option Addr} {g c k cp v u : Nat} {w wr w2 : World} (h : MixAt f1 f2 ds (some ⟨g, 0, none⟩) c k w b cp (ps ++ [u]) qs wr) (hk : k < ds.length) (hp : ps.length = k) (hq : qs.length = k) (hb : Below wr.heap.size wr w2) (hv : v < 2 ^ 32) (hc : canon .f32 v = f2 k) :
    Mix f1 f2 ds (some ⟨g, 0, none⟩) c w (.slice b (ps.length + 1) cp) (.int .i64 ((k : Int) + 1)) (w2.setCell ⟨g, k, none⟩ (.float .f32 v)) := by
  have hm := mix_set h hk (by simp [hp]) hq hb hv hc
  rw [List.length_append, List.length_singleton] at hm
  exact hm
theorem mix_stay' {f1 f2 : Nat → Nat} {ds ps qs : List Nat} {a b : Option Addr} {c k cp u : Nat} {w wr : World} (h : MixAt f1 f2 ds a c k w b cp (ps ++ [u]) qs wr) (hk : k < ds.length) (hp : ps.length = k) (hq : qs.length = k) (hc : canon .f32 (ds.getD k 0) = f2 k) :
    Mix f1 f2 ds a c w (.slice b (ps.length + 1) cp) (.int .i64 ((k : Int) + 1)) wr := by
  have hm := mix_stay h hk (by simp [hp]) hq hc
  rw [List.length_append, List.length_singleton] at hm
  exact hm

/-! absolute values -/
def cabs (d : Nat) : Nat := d % 2147483648
theorem canon_abs (x : Nat) : canon .f32 (x % 2147483648) = cabs (canon .f32 x) := by
  unfold cabs
  by_cases h : isNan .f32 x = true
  · have h2 : isNan .f32 (x % 2147483648) = true := by rw [isNan32] at h ⊢; simpa using h
    rw [canon_nan h, canon_nan h2]; rfl
  · have h : isNan .f32 x = false := by simpa using h
    have h2 : isNan .f32 (x % 2147483648) = false := by rw [isNan32] at h ⊢; simpa using h
    rw [canon_num h, canon_num h2]
theorem cabs_canon (x : Nat) : canon .f32 (cabs (canon .f32 x)) = cabs (canon .f32 x) := by rw [← canon_abs, canon_canon]
theorem cabs_lt (d : Nat) : cabs d < 2 ^ 32 := by unfold cabs; omega
theorem and_not31 (x : Nat) (h : x < 4294967296) : x &&& (2 ^ 64 - 1 - 2147483648) = x % 2147483648 := by
  rw [show (2 ^ 64 - 1 - 2147483648 : Nat) = 2 ^ 64 - (2147483648 + 1) from rfl]
  apply Nat.eq_of_testBit_eq
  intro i
  rw [Nat.testBit_and, Nat.testBit_two_pow_sub_succ (by decide), show (2147483648 : Nat) = 2 ^ 31 from rfl, Nat.testBit_mod_two_pow, Nat.testBit_two_pow]
  by_cases e : i < 31
  · have e1 : i < 64 := by omega
    have e2 : ¬ 31 = i := by omega
    simp [e, e1, e2]
  · by_cases e2 : i = 31
    · subst e2; simp
    · have : x.testBit i = false := Nat.testBit_lt_two_pow (Nat.lt_of_lt_of_le h (show 4294967296 ≤ 2 ^ i from Nat.le_trans (by decide) (Nat.pow_le_pow_right (by decide) (show 32 ≤ i by omega))))
      simp [this]
theorem b_clear64 (x : Nat) (h : x < 4294967296) : bits .andNot .i64 (x : Int) 2147483648 = ((x % 2147483648 : Nat) : Int) := by
  show IntKind.i64.wrap ((BitVec.ofInt 64 (x : Int) &&& ~~~BitVec.ofInt 64 ((2147483648 : Nat) : Int)).toNat : Int) = _
  rw [BitVec.toNat_and, BitVec.toNat_not, ofInt_u64 x (by omega), ofInt_u64 2147483648 (by decide), and_not31 x h]
  exact IntWalk.i64_in _ (by omega)
theorem c_l05Abs (x : Nat) (hx : x < 4294967296) (w : World) : Calls Try.prog 75 #[.float .f32 x] w fun e w' => e = .returned (.float .f32 (cabs (canon .f32 x))) ∧ w = w' := by
  have hb := b_clear64 (canon .f32 x) (canon32_lt hx)
  have hl : cabs (canon .f32 x) < 4294967296 := by unfold cabs; omega
  go_enter Try.func75, Try.ntmps75
  go_wp2_with (first | (go_at_call 103; refine (c_l01Bits _ hx _).mono ?_; rintro e w' ⟨rfl, rfl⟩) | (go_at_call 102; refine (c_l01From (cabs (canon .f32 x)) hl _).mono ?_; rintro e w' ⟨rfl, rfl⟩))
  go_ret
  exact ⟨rfl, rfl⟩
theorem c_absolute (x : Nat) (hx : x < 4294967296) (w : World) : Calls Try.prog 106 #[.float .f32 x] w fun e w' => e = .returned (.float .f32 (x % 2147483648)) ∧ w = w' := by
  have hb := b_clear x hx
  go_enter Try.func106, Try.ntmps106
  go_wp2
  go_ret
  exact ⟨ret_f (by simp), rfl⟩
end Go.Proofs.Ytaklcmibpnpffaa
