/-
  What the drawing of one number returns: some 32-bit number. Conditions: the source stands in a block of its own.
-/
import Derived.Test.YtpfbhckmpkiijaaDoorDraw
namespace Go.Proofs.YtpfbhckmpkiijaaDoor
open Go.RowKit

theorem Src.kept {a : Option Addr} {len cap : Nat} {zs : List Int} {S N : Nat} {w w' : World} (h : Src a len cap zs S N w) (hb : Below (S + 1) w w') : Src a len cap zs S N w' := by
  obtain ⟨k, sd, h1, h2, h3, h4, h5, h6, h7, h8, h9⟩ := h
  refine ⟨k, sd, h1, h2, ?_, ?_, ?_, ?_, ?_, Nat.lt_of_lt_of_le h8 hb.size, h9.kept (hb.mono (Nat.le_succ S))⟩
  · rw [hb.cell (p := ⟨S, 0, none⟩) (Nat.lt_succ_self S)]; exact h3
  · rw [hb.cell (p := ⟨S, 1, none⟩) (Nat.lt_succ_self S)]; exact h4
  · rw [hb.cell (p := ⟨S, 2, none⟩) (Nat.lt_succ_self S)]; exact h5
  · rw [hb.frozen (p := ⟨S, 1, none⟩) (Nat.lt_succ_self S)]; exact h6
  · rw [hb.frozen (p := ⟨S, 2, none⟩) (Nat.lt_succ_self S)]; exact h7
theorem Src.lt {a : Option Addr} {len cap : Nat} {zs : List Int} {S N : Nat} {w : World} (h : Src a len cap zs S N w) : S < w.heap.size := by
  obtain ⟨k, sd, h1, h2, h3, h4, h5, h6, h7, h8, h9⟩ := h; exact h8
theorem Gone.alloc {a : Option Addr} {len cap : Nat} {zs : List Int} {S M : Nat} {w w1 : World} (h : Gone a len cap zs S M w w1) (o : Obj) : Gone a len cap zs S M w (w1.alloc o) := by
  have hlt := h.1.lt
  have hb : Below (S + 1) w1 (w1.alloc o) := (Below.refl _ _).alloc (by omega) o
  exact ⟨h.1.kept hb, fun B hB => (h.2.1 B hB).trans (hb.mono (by omega)), Nat.le_trans h.2.2.1 hb.size, fun k hk hS => (Below.heap_alloc _ _ _ (Nat.lt_of_lt_of_le hk h.2.2.1)).trans (h.2.2.2 k hk hS)⟩
theorem cell_new (w : World) (cs : Array Value) (t : TypeId) (i : Nat) : (w.alloc (.cells cs t (0, 0))).cell? ⟨w.heap.size, i, none⟩ = cs[i]? := by
  unfold World.cell?
  have : (w.alloc (.cells cs t (0, 0))).heap[w.heap.size]? = some (.cells cs t (0, 0)) := by
    show (w.heap.push _)[w.heap.size]? = _
    simp
  rw [this]
  rfl
theorem cell_lit (w : World) (L : List Int) (t : TypeId) (i : Nat) (h : i < L.length) : (w.alloc (.cells (L.map (Value.int .i64)).toArray t (0, 0))).cell? ⟨w.heap.size, i, none⟩ = some (.int .i64 (L.getD i 0)) := by
  rw [show (w.alloc (.cells (L.map (Value.int .i64)).toArray t (0, 0))).cell? ⟨w.heap.size, i, none⟩ = (L.map (Value.int .i64)).toArray[i]? from cell_new _ _ _ _]
  simp [List.getD, h]

theorem c_among (a : Option Addr) (len cap : Nat) (zs : List Int) (S N : Nat) (w : World) (h : Src a len cap zs S N w) (hN : N ≤ 4611686018426000000) (B n : Nat) (L : List Int) (hn1 : 1 ≤ n) (hn2 : n ≤ 100) (hB : S < B)
    (hc : ∀ i, i < n → w.cell? ⟨B, i, none⟩ = some (.int .i64 (L.getD i 0))) (hB2 : B < w.heap.size) (hL : ∀ i, i < n → 0 ≤ L.getD i 0 ∧ L.getD i 0 ≤ 4294967295) :
    Calls Tryd.prog 59 #[.pointer (some ⟨S, 0, none⟩), .slice (some ⟨B, 0, none⟩) n n] w fun e w' => ∃ v : Nat, v < 4294967296 ∧ e = .returned (.int .i64 v) ∧ Gone a len cap zs S (N + 2) w w' := by
  have H := Lib.hid h
  have HN := Lib.hid hN
  have HC := Lib.hid hc
  have HL := Lib.hid hL
  clear h hN hc hL
  go_enter Tryd.func59, Tryd.ntmps59
  go_wp2_with fail
  refine (c_pick n (by omega) (by omega) a len cap zs S N _ H.out (by have := HN.out; omega)).mono ?_
  rintro e w1 ⟨v, v0, v1, rfl, g1⟩
  obtain ⟨j, rfl⟩ := Int.eq_ofNat_of_zero_le v0
  have hj : j < n := by omega
  have hcell : w1.cell? ⟨B, j, none⟩ = some (.int .i64 (L.getD j 0)) := by
    rw [World.cell?_of_block (w := w) (g1.2.2.2 B hB2 (by omega))]; exact HC.out j hj
  obtain ⟨x, hx⟩ : ∃ x, L.getD j 0 = x := ⟨_, rfl⟩
  have hb := HL.out j hj
  rw [hx] at hcell hb
  have HB := Lib.hid hb
  have G1 := Lib.hid g1
  clear g1 hx hb
  go_wp2_with fail
  go_ret
  exact ⟨x.toNat, by have := HB.out; omega, ret_i (by have := HB.out; omega), G1.out⟩

def tenBits : List Int := [0, 2147483648, 2139095040, 4286578688, 2143289344, 1, 2139095039, 8388608, 8388607, 2147483649]
def fourBits : List Int := [8388608, 2130706432, 1610612736, 536870912]
theorem tenBits_ok : ∀ i, i < 10 → 0 ≤ tenBits.getD i 0 ∧ tenBits.getD i 0 ≤ 4294967295 := by
  intro i hi
  have : ∀ j : Fin 10, 0 ≤ tenBits.getD j.val 0 ∧ tenBits.getD j.val 0 ≤ 4294967295 := by decide
  exact this ⟨i, hi⟩
theorem fourBits_ok : ∀ i, i < 4 → 0 ≤ fourBits.getD i 0 ∧ fourBits.getD i 0 ≤ 4294967295 := by
  intro i hi
  have : ∀ j : Fin 4, 0 ≤ fourBits.getD j.val 0 ∧ fourBits.getD j.val 0 ≤ 4294967295 := by decide
  exact this ⟨i, hi⟩
/-- a table laid in a new block, and one of its numbers -/
theorem c_table {a : Option Addr} {len cap : Nat} {zs : List Int} {S N : Nat} {w0 w : World} (h : Gone a len cap zs S N w0 w) (hN : N ≤ 4611686018426000000) (n : Nat) (L : List Int) (t : TypeId) (hn : L.length = n) (hn1 : 1 ≤ n) (hn2 : n ≤ 100)
    (hL : ∀ i, i < n → 0 ≤ L.getD i 0 ∧ L.getD i 0 ≤ 4294967295) :
    Calls Tryd.prog 59 #[.pointer (some ⟨S, 0, none⟩), .slice (some ⟨w.heap.size, 0, none⟩) n n] (w.alloc (.cells (L.map (Value.int .i64)).toArray t (0, 0))) fun e w' => ∃ v : Nat, v < 4294967296 ∧ e = .returned (.int .i64 v) ∧ Gone a len cap zs S (N + 2) w0 w' := by
  have g := h.alloc (.cells (L.map (Value.int .i64)).toArray t (0, 0))
  refine (c_among a len cap zs S N _ g.1 hN w.heap.size n L hn1 hn2 h.1.lt (fun i hi => cell_lit w L t i (by omega)) ?_ hL).mono ?_
  · show w.heap.size < (w.heap.push _).size
    simp
  · rintro e w' ⟨v, hv, rfl, g'⟩
    exact ⟨v, hv, rfl, g.trans g'⟩

set_option maxHeartbeats 1000000 in
theorem c_l01DrawFloat (a : Option Addr) (len cap : Nat) (zs : List Int) (S N : Nat) (w : World) (h : Src a len cap zs S N w) (hN : N ≤ 4611686018425000000) :
    Calls Tryd.prog 47 #[.pointer (some ⟨S, 0, none⟩)] w (DrawF a len cap zs S (N + 12) w) := by
  have H := Lib.hid h
  have HN := Lib.hid hN
  clear h hN
  go_enter Tryd.func47, Tryd.ntmps47
  go_wp2_with fail
  refine (c_one 12 (by decide) (by decide) a len cap zs S N _ H.out (by have := HN.out; omega)).mono ?_
  rintro e w1 ⟨u, rfl, g1⟩
  have G1 := Lib.hid g1
  clear g1
  cases u
  · go_wp2_with fail
    refine (c_l01DrawPlain a len cap zs S (N + 2) _ G1.out.1 (by have := HN.out; omega)).mono ?_
    rintro e w2 ⟨r, hr, rfl, g2⟩
    have G2 := Lib.hid (G1.out.trans g2)
    have HR := Lib.hid hr
    clear g2 hr
    go_wp2_with fail
    go_ret
    exact ⟨r, HR.out, rfl, G2.out.mono (by omega)⟩
  · go_wp2_with fail
    refine (c_pick 4 (by decide) (by decide) a len cap zs S (N + 2) _ G1.out.1 (by have := HN.out; omega)).mono ?_
    rintro e w2 ⟨v, v0, v1, rfl, g2⟩
    have G2 := Lib.hid (G1.out.trans g2)
    clear g2
    have hv : v = 0 ∨ v = 1 ∨ v = 2 ∨ v = 3 := by omega
    clear v0 v1
    rcases hv with rfl | rfl | rfl | rfl
    · go_wp2_with fail
      refine (c_table G2.out (by have := HN.out; omega) 10 tenBits 2 rfl (by decide) (by decide) tenBits_ok).mono ?_
      rintro e w3 ⟨x, hx, rfl, g3⟩
      have G3 := Lib.hid g3
      have HX := Lib.hid hx
      clear g3 hx
      go_wp2_with fail
      refine (c_l01From x HX.out _).mono ?_
      rintro e w4 ⟨rfl, rfl⟩
      go_wp2_with fail
      go_ret
      exact ⟨x, HX.out, rfl, G3.out.mono (by omega)⟩
    · go_wp2_with fail
      refine (c_pick 65536 (by decide) (by decide) a len cap zs S (N + 2 + 2) _ G2.out.1 (by have := HN.out; omega)).mono ?_
      rintro e w3 ⟨x, x0, x1, rfl, g3⟩
      have G3 := Lib.hid (G2.out.trans g3)
      clear g3
      go_wp2_with fail
      refine (c_pick 65536 (by decide) (by decide) a len cap zs S (N + 2 + 2 + 2) _ G3.out.1 (by have := HN.out; omega)).mono ?_
      rintro e w4 ⟨y, y0, y1, rfl, g4⟩
      have G4 := Lib.hid (G3.out.trans g4)
      clear g4
      obtain ⟨z, hz⟩ := Int.eq_ofNat_of_zero_le (show 0 ≤ x * 65536 + y by omega)
      have hzl : z < 4294967296 := by omega
      go_wp2_with fail
      clear hz
      refine (c_l01From z hzl _).mono ?_
      rintro e w5 ⟨rfl, rfl⟩
      go_wp2_with fail
      go_ret
      exact ⟨z, hzl, rfl, G4.out.mono (by omega)⟩
    · go_wp2_with fail
      refine (c_pick 65536 (by decide) (by decide) a len cap zs S (N + 2 + 2) _ G2.out.1 (by have := HN.out; omega)).mono ?_
      rintro e w3 ⟨x, x0, x1, rfl, g3⟩
      have G3 := Lib.hid (G2.out.trans g3)
      clear g3
      obtain ⟨z, hz⟩ := Int.eq_ofNat_of_zero_le (show 0 ≤ x * 65536 by omega)
      have hzl : z < 4294967296 := by omega
      go_wp2_with fail
      clear hz
      refine (c_l01From z hzl _).mono ?_
      rintro e w5 ⟨rfl, rfl⟩
      go_wp2_with fail
      go_ret
      exact ⟨z, hzl, rfl, G3.out.mono (by omega)⟩
    · go_wp2_with fail
      refine (c_l01DrawPlain a len cap zs S (N + 2 + 2) _ G2.out.1 (by have := HN.out; omega)).mono ?_
      rintro e w3 ⟨r, hr, rfl, g3⟩
      have G3 := Lib.hid (G2.out.trans g3)
      clear g3 hr
      go_wp2_with fail
      refine (c_table G3.out (by have := HN.out; omega) 4 fourBits 2 rfl (by decide) (by decide) fourBits_ok).mono ?_
      rintro e w4 ⟨x, hx, rfl, g4⟩
      have G4 := Lib.hid g4
      have HX := Lib.hid hx
      clear g4 hx
      go_wp2_with fail
      refine (c_l01From x HX.out _).mono ?_
      rintro e w5 ⟨rfl, rfl⟩
      go_wp2_with fail
      go_ret
      exact ⟨_, fval32_lt _ _ _ _, rfl, (G4.out.drewN _).mono (by omega)⟩

theorem code_of {a : Option Addr} {len cap : Nat} {zs : List Int} {w : World} (h : IsRow .u8 w a len cap zs) (hl : len ≤ 1048576) : Code a len zs w.heap.size w := by
  obtain ⟨h1, h2, h3, h4, h5⟩ := h
  refine ⟨by omega, fun i => ?_, ?_⟩
  · by_cases hi : i < zs.length
    · have := h4 zs[i] (List.getElem_mem hi)
      rw [show zs.getD i 0 = zs[i] by simp [List.getD, hi]]
      simpa [Lit.wf, IntKind.min, IntKind.max, IntKind.signed, IntKind.bits] using this
    · rw [show zs.getD i 0 = 0 by simp [List.getD, hi]]; decide
  · rcases h5 with h5 | ⟨b, off, ha, hb, hc⟩
    · exact .inl h5
    · exact .inr ⟨b, off, ha, hb, hc⟩
theorem c_l00From (a : Option Addr) (len cap : Nat) (zs : List Int) (w : World) (h : IsRow .u8 w a len cap zs) (hl : len ≤ 1048576) :
    Calls Tryd.prog 26 #[.slice a len cap] w fun e w' => e = .returned (.pointer (some ⟨w.heap.size, 0, none⟩)) ∧ Src a len cap zs w.heap.size 0 w' ∧ Below w.heap.size w w' ∧ w.heap.size < w'.heap.size := by
  have HC := Lib.hid (code_of h hl)
  clear h hl
  go_enter Tryd.func26, Tryd.ntmps26
  go_wp2
  go_ret
  have hb : Below w.heap.size w (w.alloc (.cells #[.slice a len cap, .int .i64 0, .int .u64 0] 79 (0, 0))) := (Below.refl _ _).alloc (Nat.le_refl _) _
  have hs : w.heap.size < (w.alloc (.cells #[.slice a len cap, .int .i64 0, .int .u64 0] 79 (0, 0))).heap.size := by
    show w.heap.size < (w.heap.push _).size
    simp
  have hh : (w.alloc (.cells #[.slice a len cap, .int .i64 0, .int .u64 0] 79 (0, 0))).heap[w.heap.size]? = some (.cells #[.slice a len cap, .int .i64 0, .int .u64 0] 79 (0, 0)) := by
    show (w.heap.push _)[w.heap.size]? = _
    simp
  refine ⟨rfl, ⟨0, 0, Nat.le_refl _, by decide, cell_new _ _ _ _, cell_new _ _ _ _, cell_new _ _ _ _, ?_, ?_, hs, HC.out.kept hb⟩, hb, hs⟩
  · unfold World.frozen?; rw [hh]; rfl
  · unfold World.frozen?; rw [hh]; rfl

/-- some number, and nothing that was there has turned -/
def RetNum (w : World) (e : Ending) (w' : World) : Prop := ∃ r : Nat, r < 4294967296 ∧ e = .returned (.float .f32 r) ∧ Below w.heap.size w w'
end Go.Proofs.YtpfbhckmpkiijaaDoor
