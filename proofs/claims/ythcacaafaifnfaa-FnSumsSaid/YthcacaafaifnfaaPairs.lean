/-
  What the sum of both halves returns, as deep as a list can be halved. Conditions: the list's elements can be read.
-/
import Derived.Test.YthcacaafaifnfaaSums
import Derived.BigRegion
import Derived.Deep.RegionWith
namespace Go.Proofs.Ythcacaafaifnfaa
open Go.RowKit

/-- the sum of both halves, for lists of at most n numbers -/
def cpair : Nat → List Nat → Nat
  | 0, _ => 0
  | n + 1, zs => if zs.length = 0 then 0 else if zs.length = 1 then canon .f32 (zs.getD 0 0) else cop .add .f32 (cpair n (zs.take ((zs.length + 1) / 2))) (cpair n (zs.drop ((zs.length + 1) / 2)))
theorem cpair_zero {n : Nat} {zs : List Nat} (h : zs.length = 0) : cpair n zs = 0 := by
  cases n with
  | zero => rfl
  | succ n => unfold cpair; rw [if_pos h]
theorem cpair_one {n : Nat} {zs : List Nat} (h : zs.length = 1) : cpair (n + 1) zs = canon .f32 (zs.getD 0 0) := by
  unfold cpair; rw [if_neg (by omega), if_pos h]
theorem cpair_two {n : Nat} {zs : List Nat} (h : 2 ≤ zs.length) : cpair (n + 1) zs = cop .add .f32 (cpair n (zs.take ((zs.length + 1) / 2))) (cpair n (zs.drop ((zs.length + 1) / 2))) := by
  conv => lhs; unfold cpair
  rw [if_neg (by omega), if_neg (by omega)]

theorem IsFloats.drewN' {k : FloatKind} {w : World} {a : Option Addr} {len cap : Nat} {zs : List Nat} (h : IsFloats k w a len cap zs) (n : Nat) : IsFloats k (w.drewN n) a len cap zs := h.kept (below_drewN (Below.refl _ _) n)
theorem isFloats_take {w : World} {b off len cap : Nat} {zs : List Nat} (h : IsFloats .f32 w (some ⟨b, off, none⟩) len cap zs) (k : Nat) (hk : k ≤ len) : IsFloats .f32 w (some ⟨b, off, none⟩) k cap (zs.take k) := by
  obtain ⟨h1, h2, h3, h4, h5⟩ := h
  refine ⟨by omega, h2, by simp; omega, fun n hn => h4 n (List.mem_of_mem_take hn), ?_⟩
  rcases h5 with h0 | ⟨b', off', ha, hb, hc⟩
  · exact .inl (by omega)
  · refine .inr ⟨b', off', ha, hb, fun i hi => ?_⟩
    rw [hc i (by omega)]
    simp [List.getD, hi]
theorem isFloats_drop {w : World} {b off len cap : Nat} {zs : List Nat} (h : IsFloats .f32 w (some ⟨b, off, none⟩) len cap zs) (k : Nat) (hk : k ≤ len) : IsFloats .f32 w (some ⟨b, off + k, none⟩) (len - k) (cap - k) (zs.drop k) := by
  obtain ⟨h1, h2, h3, h4, h5⟩ := h
  refine ⟨by omega, by omega, by simp; omega, fun n hn => h4 n (List.mem_of_mem_drop hn), ?_⟩
  rcases h5 with h0 | ⟨b', off', ha, hb, hc⟩
  · exact .inl (by omega)
  · simp only [Option.some.injEq, Addr.mk.injEq, and_true] at ha
    obtain ⟨rfl, rfl⟩ := ha
    refine .inr ⟨b, off + k, rfl, hb, fun i hi => ?_⟩
    rw [Nat.add_assoc, hc (k + i) (by omega)]
    simp [List.getD, List.getElem?_drop]

set_option maxHeartbeats 4000000 in
theorem c_sumHalves : ∀ (n : Nat) (zs : List Nat) (a : Option Addr) (len cap : Nat) (w : World), IsFloats .f32 w a len cap zs → len ≤ n → len ≤ 256 → Calls Try.prog 19 #[.slice a len cap] w (RetF .f32 (cpair n zs) w) := by
  intro n
  induction n with
  | zero =>
    intro zs a len cap w h hl _
    obtain rfl : len = 0 := by omega
    have H := Lib.hid (cpair_zero (n := 0) (zs := zs) h.2.2.1)
    clear h
    go_enter Try.func19, Try.ntmps19
    go_wp2
    go_ret
    exact ⟨0, 0, by rw [H.out, canon_zero], by decide, rfl, rfl⟩
  | succ n ih =>
    intro zs a len cap w h hl h256
    by_cases h0 : len = 0
    · subst h0
      have H := Lib.hid (cpair_zero (n := n + 1) (zs := zs) h.2.2.1)
      clear h
      go_enter Try.func19, Try.ntmps19
      go_wp2
      go_ret
      exact ⟨0, 0, by rw [H.out, canon_zero], by decide, rfl, rfl⟩
    · by_cases h1 : len = 1
      · subst h1
        have H := Lib.hid (cpair_one (n := n) (zs := zs) h.2.2.1)
        obtain ⟨_, _, hz, hlt, h5⟩ := h
        rcases h5 with h0' | ⟨b, off, ha, _, hc⟩
        · omega
        · subst ha
          have hcell : w.cell? ⟨b, off, none⟩ = some (.float .f32 (zs.getD 0 0)) := by simpa using hc 0 (by omega)
          obtain ⟨z, hz0⟩ : ∃ z, zs.getD 0 0 = z := ⟨_, rfl⟩
          have hzz : z < 2 ^ 32 := by
            have := hlt (zs.getD 0 0) (by simp [List.getD, show 0 < zs.length by omega])
            rw [hz0] at this; exact this
          rw [hz0] at hcell
          have HZ := Lib.hid hz0
          have HL := Lib.hid hzz
          clear hc hz0 hlt hz ih hzz
          go_enter Try.func19, Try.ntmps19
          go_wp2
          go_ret
          exact ⟨z, 0, by rw [H.out, HZ.out], HL.out, rfl, rfl⟩
      · have H := Lib.hid (cpair_two (n := n) (zs := zs) (by rw [h.2.2.1]; omega))
        have hlen := h.2.2.1
        rcases h.2.2.2.2 with h0' | ⟨b, off, ha, _, _⟩
        · omega
        · subst ha
          obtain ⟨half, hhalf⟩ : ∃ half, half = (len + 1) / 2 := ⟨_, rfl⟩
          have H1 := Lib.hid (isFloats_take h half (by omega))
          have H2 := Lib.hid (isFloats_drop h half (by omega))
          have hb1 : half < len := by omega
          have hb2 : 1 ≤ half := by omega
          have hcap : len ≤ cap := h.1
          have hcm : cap ≤ 9223372036854775807 := by have := h.2.1; unfold maxLen at this; omega
          have HH := Lib.hid hhalf
          have HN := Lib.hid hlen
          have HL := Lib.hid hl
          have C1 := Lib.hid (fun m => ih (zs.take half) _ half cap (w.drewN m) (H1.out.drewN' m) (by omega) (by omega))
          have C2 := Lib.hid (fun m => ih (zs.drop half) _ (len - half) (cap - half) (w.drewN m) (H2.out.drewN' m) (by omega) (by omega))
          clear ih h hlen hl hhalf
          go_enter Try.func19, Try.ntmps19
          go_wp2_with fail
          have eh : ((len : Int) + 1) / 2 = (half : Int) := by rw [HH.out]; omega
          rw [eh]
          clear eh
          have hne : ¬ cap = half := by omega
          go_region_with (first | (go_at_call_of 19 (Value.slice (some ⟨b, off, none⟩) half cap); refine (C1.out 1).mono ?_; rintro e wz ⟨r1, n1, hr1, _, rfl, rfl⟩; have HR1 := Lib.hid hr1; clear hr1) | (go_at_call_of 19 (Value.slice (some ⟨b, off + half, none⟩) (len - half) (cap - half)); refine (C2.out _).mono ?_; rintro e wz ⟨r2, n2, hr2, _, rfl, rfl⟩; have HR2 := Lib.hid hr2; clear hr2))
          all_goals
            go_wp2
            go_ret
            exact ⟨_, _, by rw [canon_fval, HR1.out, HR2.out, H.out, HN.out, ← HH.out], fval_lt .add .f32 _ _ _, rfl, rfl⟩
theorem c_iSumPairs_no (a : Option Addr) (len cap : Nat) (w : World) (h : 256 < len) : Calls Try.prog 9 #[.slice a len cap] w (RetNo .f32 w) := by
  have h' : 256 < (len : Int) := by omega
  clear h
  go_enter Try.func9, Try.ntmps9
  go_wp2
  go_ret2
  exact ⟨rfl, rfl⟩
theorem c_iSumPairs (a : Option Addr) (len cap : Nat) (zs : List Nat) (w : World) (h : IsFloats .f32 w a len cap zs) (hl : len ≤ 256) : Calls Try.prog 9 #[.slice a len cap] w (RetFT .f32 (cpair 256 zs) w) := by
  have C := Lib.hid (c_sumHalves 256 zs a len cap w h hl hl)
  have h' : (len : Int) ≤ 256 := by omega
  clear h hl
  go_enter Try.func9, Try.ntmps9
  go_wp2_with (go_at_call 19; refine C.out.mono ?_; rintro e w' ⟨r, n, hr, hr2, rfl, rfl⟩; have HR := Lib.hid hr; have HR2 := Lib.hid hr2; clear hr hr2)
  go_ret2
  exact ⟨_, _, HR.out, HR2.out, rfl, rfl⟩
end Go.Proofs.Ythcacaafaifnfaa
