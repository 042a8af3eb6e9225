/-
  Whether slots are those of a kind of step for so many parameters: the model and the program. Conditions: the lists can be read.
-/
import Derived.Test.YtaipegkkpkagnaaAls
import Derived.Test.YtaipegkkpkagnaaESl
namespace Go.Proofs.Ytaipegkkpkagnaa
open Go.RowKit Go.Deep Go.WideShapes Go.ChangeShapes Go.Maps
set_option linter.unusedVariables false
attribute [local go_sem] World.drewN_zero

def lenB (N : Int) (x : FlA) : Bool := ((x.z.length : Int) == N)
def fitS (k : Int) (ls : List FlA) (N : Int) : Bool := (((ls.length : Int) == ((slotsOf k : Nat) : Int)) && ls.all (lenB N))
def FitRel (N : Int) (ls : List FlA) (w : World) (i : Value) (wr : World) : Prop := ∃ k : Nat, k ≤ ls.length ∧ i = .int .i64 k ∧ (ls.take k).all (lenB N) = true ∧ wr = w
theorem allS_next {g : FlA → Bool} {ls : List FlA} {k : Nat} {x : FlA} (h : (ls.take k).all g = true) (hx : ls[k]? = some x) (hg : g x = true) : (ls.take (k + 1)).all g = true := by
  rw [List.take_add_one, hx, List.all_append, h]
  simp [hg]
theorem allS_no {g : FlA → Bool} {ls : List FlA} {k : Nat} {x : FlA} (hx : ls[k]? = some x) (hg : g x = false) : ls.all g = false := by
  rw [List.all_eq_false]
  exact ⟨x, List.mem_of_getElem? hx, by rw [hg]; exact Bool.false_ne_true⟩
set_option maxHeartbeats 1000000 in
theorem c_l05Fit (go : Nat) (k N : Int) (g : Option Addr) (n cap : Nat) (ls : List FlA) (w : World) (h : SSAt w g n cap ls) (hk : w.cell? ⟨go, 0, none⟩ = some (.int .i64 k)) :
    Calls Try.prog 176 #[.pointer (some ⟨go, 0, none⟩), .slice g n cap, .int .i64 N] w fun e w' => e = .returned (.bool (fitS k ls N)) ∧ w = w' := by
  have H := Lib.hid h
  have hmax : n ≤ 9223372036854775807 := by have h1 := h.2.1; have h2 := h.2.2.1; unfold maxLen at h2; omega
  have HN := Lib.hid h.1
  have HK := Lib.hid (c_l05Slots go k w hk)
  obtain ⟨s, hs⟩ : ∃ s, fitS k ls N = s := ⟨_, rfl⟩
  have HS := Lib.hid hs
  rw [hs]
  clear h hk hs
  go_enter Try.func176, Try.ntmps176
  go_wp2_with fail
  go_loopw [7] (fun i wr => FitRel N ls w i wr) (fun i _ => n - (intOf i).toNat)
  case atStart => exact ⟨0, Nat.zero_le _, rfl, by simp, rfl⟩
  case round =>
    obtain ⟨j, hj, rfl, hz, rfl⟩ := hrel
    have HZ := Lib.hid hz
    have hj0 : (0 : Int) ≤ (j : Int) := by omega
    rw [HN.out] at hj
    clear hz
    by_cases hlt : j < n
    · have hlt' : (j : Int) < (n : Int) := by omega
      obtain ⟨b, off, z, a, c, rfl, hbk, hx, q, f⟩ := H.out.one hlt
      have HX := Lib.hid hx
      have hzl : z.length ≤ 9223372036854775807 := by have h1 := f.1; have h2 := f.2.1; unfold maxLen at h2; omega
      clear hx f
      cases hg : lenB N ⟨z, a, c⟩ with
      | true =>
        have HNN := Lib.hid (allS_next HZ.out HX.out hg)
        have de : ((z.length : Int) == N) = true := hg
        have he : (z.length : Int) = N := eq_of_beq de
        clear de hg
        subst he
        go_wp2_with fail
        go_roundw
        case rel => exact ⟨j + 1, by rw [HN.out]; omega, by go_num, HNN.out, rfl⟩
        case measure => simp [intOf]; omega
      | false =>
        have HF := Lib.hid (show false = s by rw [← HS.out, fitS, allS_no HX.out hg]; simp)
        have dn : ((z.length : Int) != N) = true := by rw [bne, show ((z.length : Int) == N) = false from hg]; rfl
        clear hg
        go_wp2_with fail
        go_ret
        exact ⟨ret_b HF.out, rfl⟩
    · obtain rfl : j = n := by omega
      have hall : ls.all (lenB N) = true := by have h1 := HZ.out; rwa [List.take_of_length_le (by rw [HN.out]; exact Nat.le_refl _)] at h1
      have HT := Lib.hid (show ((j : Int) == ((slotsOf k : Nat) : Int)) = s by rw [← HS.out, fitS, hall, HN.out]; simp)
      clear hall
      obtain ⟨m, hm⟩ : ∃ m, slotsOf k = m := ⟨_, rfl⟩
      rw [hm] at HK HT
      have hm2 : m ≤ 2 := by rw [← hm]; exact slots_le k
      clear hm
      go_wp2_with fail
      refine HK.out.mono ?_
      rintro e w2 ⟨rfl, rfl⟩
      go_wp2_with fail
      go_ret
      exact ⟨ret_b HT.out, rfl⟩
theorem c_hasCount (N : Int) (G : Nat) (z : List Nat) (a : Option Addr) (c : Nat) (w : World) (h0 : w.cell? ⟨G, 0, none⟩ = some (.int .i64 N)) :
    Calls Try.prog 178 #[.slice a z.length c, .pointer (some ⟨G, 0, none⟩)] w fun e w' => e = .returned (.bool (lenB N ⟨z, a, c⟩)) ∧ w = w' := by
  go_enter Try.func178, Try.ntmps178
  go_wp2_with fail
  go_ret
  exact ⟨rfl, rfl⟩
set_option maxHeartbeats 1000000 in
theorem c_areSlots0 (r b1 b2 ep : Nat) (N : Int) (g : Option Addr) (n cap : Nat) (ls : List FlA) (w : World) (h : SSAt w g n cap ls) :
    Calls Try.prog 131 #[kindV 0 (optV 0 r b1 b2 ep), .slice g n cap, .int .i64 N] w fun e w' => e = .returned (.bool (fitS 0 ls N)) ∧ Below w.heap.size w w' := by
  rw [show kindV 0 (optV 0 r b1 b2 ep) = .iface 230 (optV 0 r b1 b2 ep) from rfl]
  unfold optV
  have hmax : n ≤ 9223372036854775807 := by have h1 := h.2.1; have h2 := h.2.2.1; unfold maxLen at h2; omega
  have HV := Lib.hid (show fitS 0 ls N = (((n : Int) == ((0 : Nat) : Int)) && ls.all (lenB N)) by rw [fitS, h.1]; rfl)
  have HME := meth0 r b1 b2 ep
  have HC := Lib.hid (fun w => c_cntN w)
  have K := Lib.hid (Blk.new w 3 #[.int .i64 N])
  have B := Lib.hid ((Below.refl w.heap.size w).alloc (Nat.le_refl _) (.cells #[.int .i64 N] 3))
  have HA := Lib.hid (fun W (hb : Below w.heap.size w W) (hg : w.heap.size < W.heap.size) (h0 : W.cell? ⟨w.heap.size, 0, none⟩ = some (.int .i64 N)) => c_isAllS 178 #[.pointer (some ⟨w.heap.size, 0, none⟩)] (lenB N) g n cap ls W (h.kept hb) (enters_of Try.func178 (by kernel_rfl) (by kernel_rfl))
    (fun z a c wr hbr => c_hasCount N w.heap.size z a c wr ((hbr.cell (p := ⟨w.heap.size, 0, none⟩) hg).trans h0)))
  rw [HV.out]
  by_cases hn : n = 0
  · obtain ⟨t, ht⟩ : ∃ t, ls.all (lenB N) = t := ⟨_, rfl⟩
    rw [ht] at HA
    rw [ht]
    subst hn
    clear h ht
    go_enter Try.func131, Try.ntmps131
    go_wp2_with fail
    refine (HC.out _).mono ?_
    rintro e w2 ⟨rfl, hb⟩
    have B2 := Lib.hid (Below.next B.out hb)
    have K2 := Lib.hid (K.out.below hb)
    clear hb HME
    go_wp2_with fail
    refine (HA.out _ B2.out K2.out.lt (K2.out.cell 0)).mono ?_
    rintro e w3 ⟨rfl, hb⟩
    have B3 := Lib.hid (Below.next B2.out hb)
    clear hb
    go_wp2_with fail
    go_ret
    exact ⟨ret_b (by simp), B3.out⟩
  · have dn : ((n : Int) == ((0 : Nat) : Int)) = false := beq_eq_false_iff_ne.2 (by omega)
    rw [dn]
    have dm : ((n : Int) == 0) = false := dn
    clear hn dn h
    go_enter Try.func131, Try.ntmps131
    go_wp2_with fail
    refine (HC.out _).mono ?_
    rintro e w2 ⟨rfl, hb⟩
    have B2 := Lib.hid (Below.next B.out hb)
    clear hb HME
    go_wp2_with fail
    go_ret
    exact ⟨ret_b rfl, B2.out⟩
set_option maxHeartbeats 1000000 in
theorem c_areSlots1 (r b1 b2 ep : Nat) (N : Int) (g : Option Addr) (n cap : Nat) (ls : List FlA) (w : World) (h : SSAt w g n cap ls) :
    Calls Try.prog 131 #[kindV 1 (optV 1 r b1 b2 ep), .slice g n cap, .int .i64 N] w fun e w' => e = .returned (.bool (fitS 1 ls N)) ∧ Below w.heap.size w w' := by
  rw [show kindV 1 (optV 1 r b1 b2 ep) = .iface 233 (optV 1 r b1 b2 ep) from rfl]
  unfold optV
  have hmax : n ≤ 9223372036854775807 := by have h1 := h.2.1; have h2 := h.2.2.1; unfold maxLen at h2; omega
  have HV := Lib.hid (show fitS 1 ls N = (((n : Int) == ((1 : Nat) : Int)) && ls.all (lenB N)) by rw [fitS, h.1]; rfl)
  have HME := meth1 r b1 b2 ep
  have HC := Lib.hid (fun w => c_cntO w)
  have K := Lib.hid (Blk.new w 3 #[.int .i64 N])
  have B := Lib.hid ((Below.refl w.heap.size w).alloc (Nat.le_refl _) (.cells #[.int .i64 N] 3))
  have HA := Lib.hid (fun W (hb : Below w.heap.size w W) (hg : w.heap.size < W.heap.size) (h0 : W.cell? ⟨w.heap.size, 0, none⟩ = some (.int .i64 N)) => c_isAllS 178 #[.pointer (some ⟨w.heap.size, 0, none⟩)] (lenB N) g n cap ls W (h.kept hb) (enters_of Try.func178 (by kernel_rfl) (by kernel_rfl))
    (fun z a c wr hbr => c_hasCount N w.heap.size z a c wr ((hbr.cell (p := ⟨w.heap.size, 0, none⟩) hg).trans h0)))
  rw [HV.out]
  by_cases hn : n = 1
  · obtain ⟨t, ht⟩ : ∃ t, ls.all (lenB N) = t := ⟨_, rfl⟩
    rw [ht] at HA
    rw [ht]
    subst hn
    clear h ht
    go_enter Try.func131, Try.ntmps131
    go_wp2_with fail
    refine (HC.out _).mono ?_
    rintro e w2 ⟨rfl, hb⟩
    have B2 := Lib.hid (Below.next B.out hb)
    have K2 := Lib.hid (K.out.below hb)
    clear hb HME
    go_wp2_with fail
    refine (HA.out _ B2.out K2.out.lt (K2.out.cell 0)).mono ?_
    rintro e w3 ⟨rfl, hb⟩
    have B3 := Lib.hid (Below.next B2.out hb)
    clear hb
    go_wp2_with fail
    go_ret
    exact ⟨ret_b (by simp), B3.out⟩
  · have dn : ((n : Int) == ((1 : Nat) : Int)) = false := beq_eq_false_iff_ne.2 (by omega)
    rw [dn]
    have dm : ((n : Int) == 1) = false := dn
    clear hn dn h
    go_enter Try.func131, Try.ntmps131
    go_wp2_with fail
    refine (HC.out _).mono ?_
    rintro e w2 ⟨rfl, hb⟩
    have B2 := Lib.hid (Below.next B.out hb)
    clear hb HME
    go_wp2_with fail
    go_ret
    exact ⟨ret_b rfl, B2.out⟩
set_option maxHeartbeats 1000000 in
theorem c_areSlots2 (r b1 b2 ep : Nat) (N : Int) (g : Option Addr) (n cap : Nat) (ls : List FlA) (w : World) (h : SSAt w g n cap ls) :
    Calls Try.prog 131 #[kindV 2 (optV 2 r b1 b2 ep), .slice g n cap, .int .i64 N] w fun e w' => e = .returned (.bool (fitS 2 ls N)) ∧ Below w.heap.size w w' := by
  rw [show kindV 2 (optV 2 r b1 b2 ep) = .iface 234 (optV 2 r b1 b2 ep) from rfl]
  unfold optV
  have hmax : n ≤ 9223372036854775807 := by have h1 := h.2.1; have h2 := h.2.2.1; unfold maxLen at h2; omega
  have HV := Lib.hid (show fitS 2 ls N = (((n : Int) == ((1 : Nat) : Int)) && ls.all (lenB N)) by rw [fitS, h.1]; rfl)
  have HME := meth2 r b1 b2 ep
  have HC := Lib.hid (fun w => c_cntO w)
  have K := Lib.hid (Blk.new w 3 #[.int .i64 N])
  have B := Lib.hid ((Below.refl w.heap.size w).alloc (Nat.le_refl _) (.cells #[.int .i64 N] 3))
  have HA := Lib.hid (fun W (hb : Below w.heap.size w W) (hg : w.heap.size < W.heap.size) (h0 : W.cell? ⟨w.heap.size, 0, none⟩ = some (.int .i64 N)) => c_isAllS 178 #[.pointer (some ⟨w.heap.size, 0, none⟩)] (lenB N) g n cap ls W (h.kept hb) (enters_of Try.func178 (by kernel_rfl) (by kernel_rfl))
    (fun z a c wr hbr => c_hasCount N w.heap.size z a c wr ((hbr.cell (p := ⟨w.heap.size, 0, none⟩) hg).trans h0)))
  rw [HV.out]
  by_cases hn : n = 1
  · obtain ⟨t, ht⟩ : ∃ t, ls.all (lenB N) = t := ⟨_, rfl⟩
    rw [ht] at HA
    rw [ht]
    subst hn
    clear h ht
    go_enter Try.func131, Try.ntmps131
    go_wp2_with fail
    refine (HC.out _).mono ?_
    rintro e w2 ⟨rfl, hb⟩
    have B2 := Lib.hid (Below.next B.out hb)
    have K2 := Lib.hid (K.out.below hb)
    clear hb HME
    go_wp2_with fail
    refine (HA.out _ B2.out K2.out.lt (K2.out.cell 0)).mono ?_
    rintro e w3 ⟨rfl, hb⟩
    have B3 := Lib.hid (Below.next B2.out hb)
    clear hb
    go_wp2_with fail
    go_ret
    exact ⟨ret_b (by simp), B3.out⟩
  · have dn : ((n : Int) == ((1 : Nat) : Int)) = false := beq_eq_false_iff_ne.2 (by omega)
    rw [dn]
    have dm : ((n : Int) == 1) = false := dn
    clear hn dn h
    go_enter Try.func131, Try.ntmps131
    go_wp2_with fail
    refine (HC.out _).mono ?_
    rintro e w2 ⟨rfl, hb⟩
    have B2 := Lib.hid (Below.next B.out hb)
    clear hb HME
    go_wp2_with fail
    go_ret
    exact ⟨ret_b rfl, B2.out⟩
set_option maxHeartbeats 1000000 in
theorem c_areSlots3 (r b1 b2 ep : Nat) (N : Int) (g : Option Addr) (n cap : Nat) (ls : List FlA) (w : World) (h : SSAt w g n cap ls) :
    Calls Try.prog 131 #[kindV 3 (optV 3 r b1 b2 ep), .slice g n cap, .int .i64 N] w fun e w' => e = .returned (.bool (fitS 3 ls N)) ∧ Below w.heap.size w w' := by
  rw [show kindV 3 (optV 3 r b1 b2 ep) = .iface 235 (optV 3 r b1 b2 ep) from rfl]
  unfold optV
  have hmax : n ≤ 9223372036854775807 := by have h1 := h.2.1; have h2 := h.2.2.1; unfold maxLen at h2; omega
  have HV := Lib.hid (show fitS 3 ls N = (((n : Int) == ((1 : Nat) : Int)) && ls.all (lenB N)) by rw [fitS, h.1]; rfl)
  have HME := meth3 r b1 b2 ep
  have HC := Lib.hid (fun w => c_cntO w)
  have K := Lib.hid (Blk.new w 3 #[.int .i64 N])
  have B := Lib.hid ((Below.refl w.heap.size w).alloc (Nat.le_refl _) (.cells #[.int .i64 N] 3))
  have HA := Lib.hid (fun W (hb : Below w.heap.size w W) (hg : w.heap.size < W.heap.size) (h0 : W.cell? ⟨w.heap.size, 0, none⟩ = some (.int .i64 N)) => c_isAllS 178 #[.pointer (some ⟨w.heap.size, 0, none⟩)] (lenB N) g n cap ls W (h.kept hb) (enters_of Try.func178 (by kernel_rfl) (by kernel_rfl))
    (fun z a c wr hbr => c_hasCount N w.heap.size z a c wr ((hbr.cell (p := ⟨w.heap.size, 0, none⟩) hg).trans h0)))
  rw [HV.out]
  by_cases hn : n = 1
  · obtain ⟨t, ht⟩ : ∃ t, ls.all (lenB N) = t := ⟨_, rfl⟩
    rw [ht] at HA
    rw [ht]
    subst hn
    clear h ht
    go_enter Try.func131, Try.ntmps131
    go_wp2_with fail
    refine (HC.out _).mono ?_
    rintro e w2 ⟨rfl, hb⟩
    have B2 := Lib.hid (Below.next B.out hb)
    have K2 := Lib.hid (K.out.below hb)
    clear hb HME
    go_wp2_with fail
    refine (HA.out _ B2.out K2.out.lt (K2.out.cell 0)).mono ?_
    rintro e w3 ⟨rfl, hb⟩
    have B3 := Lib.hid (Below.next B2.out hb)
    clear hb
    go_wp2_with fail
    go_ret
    exact ⟨ret_b (by simp), B3.out⟩
  · have dn : ((n : Int) == ((1 : Nat) : Int)) = false := beq_eq_false_iff_ne.2 (by omega)
    rw [dn]
    have dm : ((n : Int) == 1) = false := dn
    clear hn dn h
    go_enter Try.func131, Try.ntmps131
    go_wp2_with fail
    refine (HC.out _).mono ?_
    rintro e w2 ⟨rfl, hb⟩
    have B2 := Lib.hid (Below.next B.out hb)
    clear hb HME
    go_wp2_with fail
    go_ret
    exact ⟨ret_b rfl, B2.out⟩
set_option maxHeartbeats 1000000 in
theorem c_areSlots4 (r b1 b2 ep : Nat) (N : Int) (g : Option Addr) (n cap : Nat) (ls : List FlA) (w : World) (h : SSAt w g n cap ls) :
    Calls Try.prog 131 #[kindV 4 (optV 4 r b1 b2 ep), .slice g n cap, .int .i64 N] w fun e w' => e = .returned (.bool (fitS 4 ls N)) ∧ Below w.heap.size w w' := by
  rw [show kindV 4 (optV 4 r b1 b2 ep) = .iface 238 (optV 4 r b1 b2 ep) from rfl]
  unfold optV
  have hmax : n ≤ 9223372036854775807 := by have h1 := h.2.1; have h2 := h.2.2.1; unfold maxLen at h2; omega
  have HV := Lib.hid (show fitS 4 ls N = (((n : Int) == ((2 : Nat) : Int)) && ls.all (lenB N)) by rw [fitS, h.1]; rfl)
  have HME := meth4 r b1 b2 ep
  have HC := Lib.hid (fun w => c_cntT w)
  have K := Lib.hid (Blk.new w 3 #[.int .i64 N])
  have B := Lib.hid ((Below.refl w.heap.size w).alloc (Nat.le_refl _) (.cells #[.int .i64 N] 3))
  have HA := Lib.hid (fun W (hb : Below w.heap.size w W) (hg : w.heap.size < W.heap.size) (h0 : W.cell? ⟨w.heap.size, 0, none⟩ = some (.int .i64 N)) => c_isAllS 178 #[.pointer (some ⟨w.heap.size, 0, none⟩)] (lenB N) g n cap ls W (h.kept hb) (enters_of Try.func178 (by kernel_rfl) (by kernel_rfl))
    (fun z a c wr hbr => c_hasCount N w.heap.size z a c wr ((hbr.cell (p := ⟨w.heap.size, 0, none⟩) hg).trans h0)))
  rw [HV.out]
  by_cases hn : n = 2
  · obtain ⟨t, ht⟩ : ∃ t, ls.all (lenB N) = t := ⟨_, rfl⟩
    rw [ht] at HA
    rw [ht]
    subst hn
    clear h ht
    go_enter Try.func131, Try.ntmps131
    go_wp2_with fail
    refine (HC.out _).mono ?_
    rintro e w2 ⟨rfl, hb⟩
    have B2 := Lib.hid (Below.next B.out hb)
    have K2 := Lib.hid (K.out.below hb)
    clear hb HME
    go_wp2_with fail
    refine (HA.out _ B2.out K2.out.lt (K2.out.cell 0)).mono ?_
    rintro e w3 ⟨rfl, hb⟩
    have B3 := Lib.hid (Below.next B2.out hb)
    clear hb
    go_wp2_with fail
    go_ret
    exact ⟨ret_b (by simp), B3.out⟩
  · have dn : ((n : Int) == ((2 : Nat) : Int)) = false := beq_eq_false_iff_ne.2 (by omega)
    rw [dn]
    have dm : ((n : Int) == 2) = false := dn
    clear hn dn h
    go_enter Try.func131, Try.ntmps131
    go_wp2_with fail
    refine (HC.out _).mono ?_
    rintro e w2 ⟨rfl, hb⟩
    have B2 := Lib.hid (Below.next B.out hb)
    clear hb HME
    go_wp2_with fail
    go_ret
    exact ⟨ret_b rfl, B2.out⟩
theorem c_areSlots (k : Int) (r b1 b2 ep : Nat) (N : Int) (g : Option Addr) (n cap : Nat) (ls : List FlA) (w : World) (h : SSAt w g n cap ls) (hk : isKind k = true) :
    Calls Try.prog 131 #[kindV k (optV k r b1 b2 ep), .slice g n cap, .int .i64 N] w fun e w' => e = .returned (.bool (fitS k ls N)) ∧ Below w.heap.size w w' := by
  simp only [isKind, Bool.and_eq_true, decide_eq_true_eq] at hk
  have hc : k = 0 ∨ k = 1 ∨ k = 2 ∨ k = 3 ∨ k = 4 := by omega
  rcases hc with rfl | rfl | rfl | rfl | rfl
  · exact c_areSlots0 r b1 b2 ep N g n cap ls w h
  · exact c_areSlots1 r b1 b2 ep N g n cap ls w h
  · exact c_areSlots2 r b1 b2 ep N g n cap ls w h
  · exact c_areSlots3 r b1 b2 ep N g n cap ls w h
  · exact c_areSlots4 r b1 b2 ep N g n cap ls w h
end Go.Proofs.Ytaipegkkpkagnaa
