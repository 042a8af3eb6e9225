/-
  What the drawing functions of the model return: numbers within their bounds, whatever the bytes; they turn nothing but their own source. Conditions: the source stands in a block of its own.
-/
import Derived.Test.YtpfbhckmpkiijaaDoorBits
import Derived.RegionTactic
import Derived.BigRegion
import Derived.Deep.RegionWith
import Derived.Deep.QuietTactic
import Derived.BigQuiet
namespace Go.Proofs.YtpfbhckmpkiijaaDoor
open Go.RowKit

/-- the bytes that a source reads -/
def Code (a : Option Addr) (len : Nat) (zs : List Int) (S : Nat) (w : World) : Prop :=
  len ≤ 4611686018427387904 ∧ (∀ i, 0 ≤ zs.getD i 0 ∧ zs.getD i 0 ≤ 255) ∧ (len = 0 ∨ ∃ b off, a = some ⟨b, off, none⟩ ∧ b < S ∧ ∀ i, i < len → w.cell? ⟨b, off + i, none⟩ = some (.int .u8 (zs.getD i 0)))
/-- a source in its block, at most N steps on -/
def Src (a : Option Addr) (len cap : Nat) (zs : List Int) (S N : Nat) (w : World) : Prop :=
  ∃ (k : Nat) (sd : Int), k ≤ N ∧ 0 ≤ sd ∧ w.cell? ⟨S, 0, none⟩ = some (.slice a len cap) ∧ w.cell? ⟨S, 1, none⟩ = some (.int .i64 k) ∧ w.cell? ⟨S, 2, none⟩ = some (.int .u64 sd) ∧
    w.frozen? ⟨S, 1, none⟩ = false ∧ w.frozen? ⟨S, 2, none⟩ = false ∧ S < w.heap.size ∧ Code a len zs S w
/-- an integer between bounds is returned, and the source goes on -/
def RetDraw (a : Option Addr) (len cap : Nat) (zs : List Int) (S N : Nat) (lo hi : Int) (w : World) (e : Ending) (w' : World) : Prop :=
  ∃ v : Int, lo ≤ v ∧ v ≤ hi ∧ e = .returned (.int .i64 v) ∧ Src a len cap zs S N w' ∧ (∀ B, B ≤ S → Below B w w') ∧ w.heap.size ≤ w'.heap.size ∧ (∀ k, k < w.heap.size → k ≠ S → w'.heap[k]? = w.heap[k]?)

theorem Code.kept {a : Option Addr} {len : Nat} {zs : List Int} {S : Nat} {w w' : World} (h : Code a len zs S w) (hb : Below S w w') : Code a len zs S w' := by
  obtain ⟨h1, h2, h3⟩ := h
  refine ⟨h1, h2, ?_⟩
  rcases h3 with h3 | ⟨b, off, ha, hlt, hc⟩
  · exact .inl h3
  · exact .inr ⟨b, off, ha, hlt, fun i hi => by rw [hb.cell (p := ⟨b, off + i, none⟩) hlt]; exact hc i hi⟩

theorem Src.step {a : Option Addr} {len cap : Nat} {zs : List Int} {S N : Nat} {w : World} {k : Nat} {sd x : Int} (hk : k ≤ N) (hx : 0 ≤ x)
    (c0 : w.cell? ⟨S, 0, none⟩ = some (.slice a len cap)) (c1 : w.cell? ⟨S, 1, none⟩ = some (.int .i64 k)) (c2 : w.cell? ⟨S, 2, none⟩ = some (.int .u64 sd))
    (f1 : w.frozen? ⟨S, 1, none⟩ = false) (f2 : w.frozen? ⟨S, 2, none⟩ = false) (hS : S < w.heap.size) (hc : Code a len zs S w) :
    Src a len cap zs S (N + 1) ((w.setCell ⟨S, 1, none⟩ (.int .i64 ((k : Int) + 1))).setCell ⟨S, 2, none⟩ (.int .u64 x)) ∧
    (∀ B, B ≤ S → Below B w ((w.setCell ⟨S, 1, none⟩ (.int .i64 ((k : Int) + 1))).setCell ⟨S, 2, none⟩ (.int .u64 x))) ∧
    w.heap.size ≤ ((w.setCell ⟨S, 1, none⟩ (.int .i64 ((k : Int) + 1))).setCell ⟨S, 2, none⟩ (.int .u64 x)).heap.size ∧ (∀ j, j < w.heap.size → j ≠ S → ((w.setCell ⟨S, 1, none⟩ (.int .i64 ((k : Int) + 1))).setCell ⟨S, 2, none⟩ (.int .u64 x)).heap[j]? = w.heap[j]?) := by
  have hb : ∀ B, B ≤ S → Below B w ((w.setCell ⟨S, 1, none⟩ (.int .i64 ((k : Int) + 1))).setCell ⟨S, 2, none⟩ (.int .u64 x)) := fun B hB =>
    ((Below.refl B w).setCell (p := ⟨S, 1, none⟩) hB _).setCell (p := ⟨S, 2, none⟩) hB _
  have d2 : (w.setCell ⟨S, 1, none⟩ (.int .i64 ((k : Int) + 1))).cell? ⟨S, 2, none⟩ = some (.int .u64 sd) := by go_simp
  refine ⟨⟨k + 1, x, by omega, hx, ?_, ?_, ?_, by simpa using f1, by simpa using f2, Nat.lt_of_lt_of_le hS (hb S (Nat.le_refl _)).size, hc.kept (hb S (Nat.le_refl _))⟩, hb, (hb S (Nat.le_refl _)).size, fun j _ hj => by rw [Below.heap_setCell _ _ _ _ hj, Below.heap_setCell _ _ _ _ hj]⟩
  · go_simp
  · go_simp
  · go_simp

theorem Src.drew {a : Option Addr} {len cap : Nat} {zs : List Int} {S N : Nat} {w W : World} (h : Src a len cap zs S N W ∧ (∀ B, B ≤ S → Below B w W) ∧ w.heap.size ≤ W.heap.size ∧ (∀ k, k < w.heap.size → k ≠ S → W.heap[k]? = w.heap[k]?)) :
    Src a len cap zs S N W.drew ∧ (∀ B, B ≤ S → Below B w W.drew) ∧ w.heap.size ≤ W.drew.heap.size ∧ (∀ k, k < w.heap.size → k ≠ S → W.drew.heap[k]? = w.heap[k]?) := ⟨h.1, fun B hB => (h.2.1 B hB).drew, h.2.2⟩
theorem and_255 (x : Int) (h0 : 0 ≤ x) (h1 : x < 18446744073709551616) : 0 ≤ bits .and .u64 x 255 ∧ bits .and .u64 x 255 ≤ 255 := by
  obtain ⟨n, rfl⟩ := Int.eq_ofNat_of_zero_le h0
  have h := u64_and_nat n 255 (by omega) (by decide)
  have e : n &&& 255 = n % 256 := Nat.and_two_pow_sub_one_eq_mod n 8
  rw [e] at h
  have h' : bits .and .u64 (n : Int) 255 = ((n % 256 : Nat) : Int) := h
  rw [h']; omega

theorem draw_val (Y : Int) : 0 ≤ wrap64 (bits .and .u64 (IntKind.u64.wrap Y / 1099511627776) 255) ∧ wrap64 (bits .and .u64 (IntKind.u64.wrap Y / 1099511627776) 255) ≤ 255 := by
  have h := and_255 (IntKind.u64.wrap Y / 1099511627776) (by rw [IntKind.wrap_u64]; omega) (by rw [IntKind.wrap_u64]; omega)
  rw [IntWalk.wrap64_in _ (by omega)]
  exact h

set_option maxHeartbeats 1000000 in
theorem c_next (a : Option Addr) (len cap : Nat) (zs : List Int) (S N : Nat) (w : World) (h : Src a len cap zs S N w) (hN : N ≤ 4611686018427387904) :
    Calls Tryd.prog 45 #[.pointer (some ⟨S, 0, none⟩)] w (RetDraw a len cap zs S (N + 1) 0 255 w) := by
  obtain ⟨k, sd, hk, hsd, c0, c1, c2, f1, f2, hS, hcode⟩ := h
  have HC := Lib.hid hcode
  have hlen : (len : Int) ≤ 4611686018427387904 := by have := hcode.1; omega
  have hkk : (k : Int) ≤ 4611686018427387904 := by omega
  have HK := Lib.hid hk
  have HSD := Lib.hid hsd
  have HS := Lib.hid hS
  clear hk hsd hS hcode
  by_cases hlt : k < len
  · rcases HC.out.2.2 with h0 | ⟨b, off, ha, hb, hc⟩
    · omega
    · subst ha
      have cb := hc k hlt
      have hz := HC.out.2.1 k
      have hne : b ≠ S := by omega
      obtain ⟨z, hzz⟩ : ∃ z, zs.getD k 0 = z := ⟨_, rfl⟩
      rw [hzz] at cb hz
      obtain ⟨hz0, hz1⟩ := hz
      clear hc hzz
      go_enter Tryd.func45, Tryd.ntmps45
      go_wp2
      go_region
      all_goals go_wp2
      all_goals go_region
      all_goals go_wp2
      all_goals go_region
      all_goals go_wp2
      all_goals go_ret
      all_goals exact ⟨z, hz0, hz1, rfl, Src.drew (Src.drew (Src.drew (Src.step HK.out (by rw [IntKind.wrap_u64]; omega) c0 c1 c2 f1 f2 HS.out HC.out)))⟩
  · have hge : (len : Int) ≤ k := by omega
    go_enter Tryd.func45, Tryd.ntmps45
    go_wp2
    go_region
    all_goals go_wp2
    all_goals go_region
    all_goals go_wp2
    all_goals go_ret
    all_goals exact ⟨_, (draw_val _).1, (draw_val _).2, rfl, Src.drew (Src.drew (Src.step HK.out (by rw [IntKind.wrap_u64]; omega) c0 c1 c2 f1 f2 HS.out HC.out))⟩

theorem Src.mono {a : Option Addr} {len cap : Nat} {zs : List Int} {S N M : Nat} {w : World} (h : Src a len cap zs S N w) (hM : N ≤ M) : Src a len cap zs S M w := by
  obtain ⟨k, sd, h1, r⟩ := h
  exact ⟨k, sd, Nat.le_trans h1 hM, r⟩
/-- the source has gone on, and nothing below its block has turned -/
def Gone (a : Option Addr) (len cap : Nat) (zs : List Int) (S M : Nat) (w w' : World) : Prop := Src a len cap zs S M w' ∧ (∀ B, B ≤ S → Below B w w') ∧ w.heap.size ≤ w'.heap.size ∧ (∀ k, k < w.heap.size → k ≠ S → w'.heap[k]? = w.heap[k]?)
theorem Gone.trans {a : Option Addr} {len cap : Nat} {zs : List Int} {S M M' : Nat} {w w1 w2 : World} (h1 : Gone a len cap zs S M w w1) (h2 : Gone a len cap zs S M' w1 w2) : Gone a len cap zs S M' w w2 :=
  ⟨h2.1, fun B hB => (h1.2.1 B hB).trans (h2.2.1 B hB), Nat.le_trans h1.2.2.1 h2.2.2.1, fun k hk hS => (h2.2.2.2 k (Nat.lt_of_lt_of_le hk h1.2.2.1) hS).trans (h1.2.2.2 k hk hS)⟩
theorem Gone.mono {a : Option Addr} {len cap : Nat} {zs : List Int} {S M M' : Nat} {w w1 : World} (h : Gone a len cap zs S M w w1) (hM : M ≤ M') : Gone a len cap zs S M' w w1 := ⟨h.1.mono hM, h.2⟩
theorem Gone.refl {a : Option Addr} {len cap : Nat} {zs : List Int} {S M : Nat} {w : World} (h : Src a len cap zs S M w) : Gone a len cap zs S M w w := ⟨h, fun _ _ => Below.refl _ _, Nat.le_refl _, fun _ _ _ => rfl⟩
theorem Gone.drewN {a : Option Addr} {len cap : Nat} {zs : List Int} {S M : Nat} {w w1 : World} (h : Gone a len cap zs S M w w1) (n : Nat) : Gone a len cap zs S M w (w1.drewN n) := ⟨h.1, fun B hB => below_drewN (h.2.1 B hB) n, h.2.2⟩

theorem c_pick (n : Int) (hn1 : 1 ≤ n) (hn2 : n ≤ 1000000) (a : Option Addr) (len cap : Nat) (zs : List Int) (S N : Nat) (w : World) (h : Src a len cap zs S N w) (hN : N ≤ 4611686018427000000) :
    Calls Tryd.prog 27 #[.pointer (some ⟨S, 0, none⟩), .int .i64 n] w fun e w' => ∃ v : Int, 0 ≤ v ∧ v ≤ n - 1 ∧ e = .returned (.int .i64 v) ∧ Gone a len cap zs S (N + 2) w w' := by
  have H := Lib.hid h
  clear h
  by_cases h1 : n ≤ 1
  · go_enter Tryd.func27, Tryd.ntmps27
    go_wp2
    go_ret
    exact ⟨0, by omega, by omega, rfl, (Gone.refl H.out).mono (by omega)⟩
  · by_cases h2 : n ≤ 200
    · go_enter Tryd.func27, Tryd.ntmps27
      go_wp2_with fail
      refine (c_next a len cap zs S N _ H.out (by omega)).mono ?_
      rintro e w1 ⟨v, v0, v1, rfl, g1⟩
      have G1 := Lib.hid (show Gone a len cap zs S (N + 1) w w1 from g1)
      clear g1
      go_wp2_with fail
      go_ret
      exact ⟨_, Int.emod_nonneg _ (by omega), by have := Int.emod_lt_of_pos v (show 0 < n by omega); omega, rfl, G1.out.mono (by omega)⟩
    · go_enter Tryd.func27, Tryd.ntmps27
      go_wp2_with fail
      refine (c_next a len cap zs S N _ H.out (by omega)).mono ?_
      rintro e w1 ⟨v, v0, v1, rfl, g1⟩
      have G1 := Lib.hid (show Gone a len cap zs S (N + 1) w w1 from g1)
      clear g1
      go_wp2_with fail
      refine (c_next a len cap zs S (N + 1) _ G1.out.1 (by omega)).mono ?_
      rintro e w2 ⟨u, u0, u1, rfl, g2⟩
      have G2 := Lib.hid (G1.out.trans (show Gone a len cap zs S (N + 1 + 1) w1 w2 from g2))
      clear g2
      go_wp2_with fail
      go_ret
      exact ⟨_, Int.emod_nonneg _ (by omega), by have := Int.emod_lt_of_pos (v * 256 + u) (show 0 < n by omega); omega, rfl, G2.out⟩
theorem c_one (n : Int) (hn1 : 1 ≤ n) (hn2 : n ≤ 1000000) (a : Option Addr) (len cap : Nat) (zs : List Int) (S N : Nat) (w : World) (h : Src a len cap zs S N w) (hN : N ≤ 4611686018427000000) :
    Calls Tryd.prog 46 #[.pointer (some ⟨S, 0, none⟩), .int .i64 n] w fun e w' => ∃ v : Bool, e = .returned (.bool v) ∧ Gone a len cap zs S (N + 2) w w' := by
  have H := Lib.hid h
  have HN := Lib.hid hN
  clear h hN
  go_enter Tryd.func46, Tryd.ntmps46
  go_wp2_with fail
  refine (c_pick n hn1 hn2 a len cap zs S N _ H.out HN.out).mono ?_
  rintro e w1 ⟨v, v0, v1, rfl, g1⟩
  have G1 := Lib.hid g1
  clear g1
  go_wp2_with fail
  go_ret
  exact ⟨_, rfl, G1.out⟩

/-- a number is drawn -/
def DrawF (a : Option Addr) (len cap : Nat) (zs : List Int) (S M : Nat) (w : World) (e : Ending) (w' : World) : Prop := ∃ r : Nat, r < 4294967296 ∧ e = .returned (.float .f32 r) ∧ Gone a len cap zs S M w w'
theorem fval32_lt (op : BinOp) (x y : Nat) (w : World) : fval op .f32 x y w < 4294967296 := fval_lt op .f32 x y w

theorem c_l01DrawPlain (a : Option Addr) (len cap : Nat) (zs : List Int) (S N : Nat) (w : World) (h : Src a len cap zs S N w) (hN : N ≤ 4611686018426000000) :
    Calls Tryd.prog 48 #[.pointer (some ⟨S, 0, none⟩)] w (DrawF a len cap zs S (N + 4) w) := by
  have H := Lib.hid h
  have HN := Lib.hid hN
  clear h hN
  go_enter Tryd.func48, Tryd.ntmps48
  go_wp2_with fail
  refine (c_pick 129 (by decide) (by decide) a len cap zs S N _ H.out (Nat.le_trans HN.out (by decide))).mono ?_
  rintro e w1 ⟨v, v0, v1, rfl, g1⟩
  have G1 := Lib.hid g1
  clear g1
  go_wp2_with fail
  refine (c_one 4 (by decide) (by decide) a len cap zs S (N + 2) _ G1.out.1 (by have := HN.out; omega)).mono ?_
  rintro e w2 ⟨u, rfl, g2⟩
  have G2 := Lib.hid (G1.out.trans g2)
  clear g2
  cases u
  · go_wp2_with fail
    go_ret
    exact ⟨_, fval32_lt _ _ _ _, rfl, G2.out.drewN _⟩
  · go_wp2_with fail
    go_ret
    exact ⟨_, fval32_lt _ _ _ _, rfl, G2.out.drewN _⟩
end Go.Proofs.YtpfbhckmpkiijaaDoor
