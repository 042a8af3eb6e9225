/-
  Marks of states of trainings. Conditions: the lists are the call's own, each once.
-/
import Derived.Test.YtaipegkkpkagnaaTrs
import Derived.Test.YtaipegkkpkagnaaMark
namespace Go.Proofs.Ytaipegkkpkagnaa
open Go.RowKit Go.Deep Go.WideShapes Go.ChangeShapes
set_option linter.unusedVariables false

def mkTrs (k : Nat) (q : TrsA) : TrsA := { q with ls := mkLays k q.ls, ss := mkSS (k + cntLays q.ls) q.ss }
def cntTrs (q : TrsA) : Nat := cntLays q.ls + cntSS q.ss
set_option maxHeartbeats 2000000 in
theorem c_markTrs (q : TrsA) (B k m : Nat) (w : World) (ho : TrsOwn w B q) (hnd : q.bl.Nodup) (hm : k + cntTrs q = m) (hm4 : m ≤ 1048576) (hsz : laySum (q.ls.map LayA.p) ≤ 1048576) (hsl : q.ss.length ≤ 1048576) :
    Calls Try.prog 73 #[.agg q.cells, .int .i64 k] w fun e w' => e = .returned (.int .i64 (m : Int)) ∧ TrsOwn w' B (mkTrs k q) ∧ GrownIn w w' q.bl := by
  have hd : (blL [lsC 113 q] ++ blL [slC 25 q]).Nodup := by simpa only [TrsA.bl, blL, List.append_nil] using hnd
  have hbl : q.bl = blL [lsC 113 q] ++ blL [slC 25 q] := by simp only [TrsA.bl, blL, List.append_nil]
  obtain ⟨d1, d2, d3⟩ := List.nodup_append.1 hd
  have O1 := Lib.hid ho.layers
  have O2 := Lib.hid ho.slots
  have O3 := Lib.hid ho.2
  have HBL := Lib.hid hbl
  clear ho hnd hd hbl
  obtain ⟨g, c, ls, g', c', ss, st, sd, sc⟩ := q
  unfold TrsA.cells
  simp only [cntTrs] at hm
  simp only [lsC, slC] at O1 O2 d1 d2 d3 HBL
  simp only at hsz hsl O3 ⊢
  obtain ⟨u, hu⟩ : ∃ u, k + cntLays ls = u := ⟨_, rfl⟩
  have HM1 := Lib.hid (fun W (h : OwnL W B [.sl 113 5 ls.length g c (laysC ls)]) => c_markMod g c ls.length k u B ls W rfl h d1 hu (by omega) hsz)
  have HM2 := Lib.hid (fun W (h : OwnL W B [.sl 25 1 ss.length g' c' (ssC ss)]) => c_markSS g' c' ss.length u m B ss W rfl h d2 (by omega) hm4 hsl)
  have D12 := Lib.hid (fun x (hx : x ∈ blL [Cl.sl 25 1 ss.length g' c' (ssC ss)]) (hy : x ∈ blL [Cl.sl 113 5 ls.length g c (laysC ls)]) => d3 x hy x hx rfl)
  have HU := Lib.hid hu
  have hl1 : (mkLays k ls).length = ls.length := mkLays_length k ls
  have HL1 := Lib.hid hl1
  have K := Lib.hid (Blk.new w 48 #[.slice g ls.length c, .slice g' ss.length c', .int .i64 st, .int .i64 sd, .float .f32 sc])
  have al := (Below.refl w.heap.size w).alloc (Nat.le_refl _) (.cells #[.slice g ls.length c, .slice g' ss.length c', .int .i64 st, .int .i64 sd, .float .f32 sc] 48)
  have P1 := Lib.hid (OwnL.kept O1.out al)
  have P2 := Lib.hid (OwnL.kept O2.out al)
  have LT := Lib.hid (OwnL.lt _ O1.out)
  have G := Lib.hid (GrownIn.of_below al (TrsA.bl ⟨g, c, ls, g', c', ss, st, sd, sc⟩))
  clear hm hu d1 d2 d3 hl1 al hm4 hsz hsl
  go_enter Try.func73, Try.ntmps73
  go_wp2_with fail
  generalize w.alloc (.cells #[.slice g ls.length c, .slice g' ss.length c', .int .i64 st, .int .i64 sd, .float .f32 sc] 48) = w1 at K P1 P2 G ⊢
  refine (HM1.out _ P1.out).mono ?_
  rintro e w2 ⟨rfl, ho, hg⟩
  have Q1 := Lib.hid ho
  have Q2 := Lib.hid (OwnL.apart hg _ P2.out D12.out)
  have K2 := Lib.hid (K.out.inn hg (fun hx => by have := (LT.out _ hx).2; omega))
  have G2 := Lib.hid (G.out.trans (hg.mono fun x hx => by rw [HBL.out]; exact List.mem_append_left _ hx))
  clear ho hg K P1 P2 G
  obtain ⟨p0, p1, p2, p3, p4, p5⟩ := tbt5 K2.out
  go_wp2_with fail
  refine (HM2.out _ Q2.out).mono ?_
  rintro e w3 ⟨rfl, ho, hg⟩
  have R1 := Lib.hid (OwnL.apart hg _ Q1.out (fun x hx hy => by
    have hb : blL [Cl.sl 113 5 ls.length g c (laysC (mkLays k ls))] = blL [Cl.sl 113 5 ls.length g c (laysC ls)] := by simp only [blL, Cl.bl, bl_mkLays]
    rw [hb] at hx
    exact D12.out x hy hx))
  have R2 := Lib.hid ho
  have G3 := Lib.hid (G2.out.trans (hg.mono fun x hx => by rw [HBL.out]; exact List.mem_append_right _ hx))
  clear ho hg p0 p1 p2 p3 p4 p5
  go_wp2_with fail
  go_ret
  refine ⟨rfl, ⟨⟨?_, ?_⟩, O3.out⟩, G3.out⟩
  · have h1 := R1.out
    simp only [OwnL, and_true] at h1
    simp only [lsC, mkTrs, HL1.out]
    exact h1
  · have h1 := R2.out
    simp only [OwnL, and_true] at h1
    simp only [slC, mkTrs, mkSS_length, HU.out, OwnL, and_true]
    exact h1
set_option maxHeartbeats 2000000 in
theorem c_heldTrs (q : TrsA) (B k m : Nat) (w : World) (ho : TrsOwn w B (mkTrs k q)) (hm : k + cntTrs q = m) (hm4 : m ≤ 1048576) (hsz : laySum (q.ls.map LayA.p) ≤ 1048576) (hsl : q.ss.length ≤ 1048576) :
    Calls Try.prog 75 #[.agg q.cells, .int .i64 k] w fun e w' => e = .returned (.int .i64 (m : Int)) ∧ Below w.heap.size w w' := by
  have h1 := ho.at.1
  have h2 := ho.at.2.1
  obtain ⟨g, c, ls, g', c', ss, st, sd, sc⟩ := q
  unfold TrsA.cells
  simp only [cntTrs] at hm
  simp only [mkTrs, mkLays_length, mkSS_length] at h1 h2
  simp only at hsz hsl ⊢
  obtain ⟨u, hu⟩ : ∃ u, k + cntLays ls = u := ⟨_, rfl⟩
  rw [hu] at h2
  have HM1 := Lib.hid (fun W (hb : Below w.heap.size w W) => c_heldMod g c ls.length k u ls W rfl (h1.kept hb) hu (by omega) hsz)
  have HM2 := Lib.hid (fun W (hb : Below w.heap.size w W) => c_heldSS g' c' ss.length u m ss W rfl (h2.kept hb) (by omega) hm4 hsl)
  have hu0 : (0 : Int) ≤ (u : Int) := by omega
  have hm0 : (0 : Int) ≤ (m : Int) := by omega
  have K := Lib.hid (Blk.new w 48 #[.slice g ls.length c, .slice g' ss.length c', .int .i64 st, .int .i64 sd, .float .f32 sc])
  have B0 := Lib.hid ((Below.refl w.heap.size w).alloc (Nat.le_refl _) (.cells #[.slice g ls.length c, .slice g' ss.length c', .int .i64 st, .int .i64 sd, .float .f32 sc] 48))
  clear hm hu h1 h2 hm4 hsz hsl ho
  go_enter Try.func75, Try.ntmps75
  go_wp2_with fail
  generalize w.alloc (.cells #[.slice g ls.length c, .slice g' ss.length c', .int .i64 st, .int .i64 sd, .float .f32 sc] 48) = w1 at K B0 ⊢
  refine (HM1.out _ B0.out).mono ?_
  rintro e w2 ⟨rfl, bl⟩
  have K2 := Lib.hid (K.out.below bl)
  have B2 := Lib.hid (Below.next B0.out bl)
  clear bl K B0
  obtain ⟨p0, p1, p2, p3, p4, p5⟩ := tbt5 K2.out
  go_wp2_with fail
  refine (HM2.out _ B2.out).mono ?_
  rintro e w3 ⟨rfl, rfl⟩
  go_wp2_with fail
  go_ret
  exact ⟨rfl, B2.out⟩
end Go.Proofs.Ytaipegkkpkagnaa
