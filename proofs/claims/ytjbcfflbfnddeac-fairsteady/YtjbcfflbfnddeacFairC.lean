/- What the laws on lives ask of package fair; the closed fact 'lived'; the walk of FairSays. -/
import Derived.Test.YtjbcfflbfnddeacSlLife
import Derived.Test.YtjbcfflbfnddeacBookW
namespace Go.Proofs.Ytjbcfflbfnddeac
open Go.RowKit
open scoped Classical

/-- Package fair's Lives, at every slice of entries. -/
def Lives : Prop := ∀ (v : Value) (es : List En) (W : World), EntSl W v es → es.length ≤ most →
  Calls Try.prog 6 #[v] W fun e w' => ∃ u, e = .returned (.tuple #[u, .int .i64 (livesOf es).2]) ∧ LifeSl w' u (livesOf es).1 ∧ Below W.heap.size W w'

/-- The reference's LivesOf. -/
def RefLives : Prop := ∀ (v : Value) (es : List En) (W : World), EntSl W v es → es.length ≤ most →
  Calls Try.prog 7 #[v] W fun e w' => ∃ u, e = .returned (.tuple #[u, .int .i64 (livesOf es).2]) ∧ LifeSl w' u (livesOf es).1 ∧ Below W.heap.size W w'

theorem put_f (a b c : Int) (w : World) :
    Calls Try.prog 16 #[.int .i64 a, .int .i64 b, .int .i64 c] w fun e w' => e = .returned (ev 1 a b c 0) ∧ Below w.heap.size w w' := by
  go_enter Try.func16, Try.ntmps16
  go_wp2
  exact bodyPost_ret (v := ev 1 a b c 0) (by simp [results, Try.results16, go_sem]) rfl ⟨rfl, grew (Below.refl _ _) _⟩

theorem ring_f (a b c : Int) (w : World) :
    Calls Try.prog 17 #[.int .i64 a, .int .i64 b, .int .i64 c] w fun e w' => e = .returned (ev 3 a 0 b c) ∧ Below w.heap.size w w' := by
  go_enter Try.func17, Try.ntmps17
  go_wp2
  exact bodyPost_ret (v := ev 3 a 0 b c) (by simp [results, Try.results17, go_sem]) rfl ⟨rfl, grew (Below.refl _ _) _⟩

def seven : List En := [⟨1, 2, 5, 10, 0⟩, ⟨3, 2, 0, 10, 0⟩, ⟨3, 2, 0, 14, 0⟩, ⟨2, 2, 0, 0, 0⟩, ⟨3, 2, 0, 15, 0⟩, ⟨1, 2, 3, 0, 0⟩, ⟨3, 2, 0, 0, 0⟩]
def twoL : List Lf := [⟨2, 5, 10, 1, true⟩, ⟨2, 3, 0, 1, false⟩]
theorem seven_lives : livesOf seven = (twoL, 0) := by kernel_rfl

set_option maxHeartbeats 4000000 in
theorem lived_any (hK : Lives) (w : World) :
    Calls Try.prog 8 #[] w fun e w' => e = .returned (.bool true) ∧ Below w.heap.size w w' := by
  have hrep := fun v W hv => hK v seven W hv (by decide)
  rw [seven_lives] at hrep
  have hq := fun v1 v2 W g1 g2 => equalL v1 v2 twoL twoL W g1 g2 (by decide)
  rw [show decide (twoL = twoL) = true by simp] at hq
  clear hK
  go_enter Try.func8, Try.ntmps8
  go_wp2_with fail
  refine (put_f _ _ _ _).mono ?_
  rintro e w1 ⟨rfl, hb1⟩
  go_wp2_with fail
  refine (ring_f _ _ _ _).mono ?_
  rintro e w2 ⟨rfl, hb2⟩
  have hB2 := step_below hb1 hb2
  clear hb1 hb2
  go_wp2_with fail
  refine (ring_f _ _ _ _).mono ?_
  rintro e w3 ⟨rfl, hb3⟩
  have hB3 := step_below hB2 hb3
  clear hb3 hB2
  go_wp2_with fail
  refine (ring_f _ _ _ _).mono ?_
  rintro e w4 ⟨rfl, hb4⟩
  have hB4 := step_below hB3 hb4
  clear hb4 hB3
  go_wp2_with fail
  refine (put_f _ _ _ _).mono ?_
  rintro e w5 ⟨rfl, hb5⟩
  have hB5 := step_below hB4 hb5
  clear hb5 hB4
  go_wp2_with fail
  refine (ring_f _ _ _ _).mono ?_
  rintro e w6 ⟨rfl, hb6⟩
  have hB6 := step_below hB5 hb6
  clear hb6 hB5
  go_wp2_with fail
  refine (hrep _ _ (by exact slOf_lit (cs := En.cells) (k := 5) (fun _ => rfl) (xs := seven) (heap_new _ _) rfl)).mono ?_
  rintro e w7 ⟨u1, rfl, J7, hb7⟩
  have hB7 := step_below (grew hB6 _) hb7
  obtain ⟨a1, c1, rfl, _⟩ := id J7
  have s2 : twoL.length = 2 := rfl
  rw [s2] at J7 ⊢
  clear hb7 hB6 hrep
  go_wp2_with fail
  have hg := grew (Below.refl w7.heap.size w7) (.cells #[.int .i64 2, .int .i64 5, .int .i64 10, .int .i64 1, .bool true, .int .i64 2, .int .i64 3, .int .i64 0, .int .i64 1, .bool false] 30)
  refine (hq _ _ _ (by exact J7.later hg) (by exact slOf_lit Lf.five (xs := twoL) (heap_new _ _) rfl)).mono ?_
  rintro e wa ⟨rfl, hba⟩
  have hBa := step_below (step_below hB7 hg) hba
  clear hg hba hB7 hq J7
  go_wp2
  go_ret
  exact ⟨rfl, hBa⟩

set_option maxHeartbeats 2000000 in
/-- The law FairSays. -/
theorem fairSays_any (hK : Lives) (hR : RefLives) (v : Value) (es : List En) (w : World) (hv : EntSl w v es) (hn : es.length ≤ most) :
    Calls Try.prog 3 #[v] w fun e w' => e = .returned (.bool true) ∧ Below w.heap.size w w' := by
  have h1 := hK v es w hv hn
  have h2 := fun W (hb : Below w.heap.size w W) => hR v es W (hv.later hb) hn
  have hl := fun W => lived_any hK W
  have hlen := livesOf_len es
  clear hK hR
  obtain ⟨a, c, rfl, _⟩ := hv
  generalize es.length = n at *
  generalize (livesOf es).2 = d at *
  generalize (livesOf es).1 = ls at *
  go_enter Try.func3, Try.ntmps3
  go_wp2_with fail
  refine h1.mono ?_
  rintro e w1 ⟨u1, rfl, J1, hb1⟩
  have h2' := h2 w1 hb1
  clear h1 h2
  go_wp2_with fail
  refine h2'.mono ?_
  rintro e w2 ⟨u2, rfl, J2, hb2⟩
  have J1' := J1.later hb2
  have hB2 := step_below hb1 hb2
  clear h2' J1 hb1 hb2
  go_wp2_with fail
  refine (hl _).mono ?_
  rintro e w3 ⟨rfl, hb3⟩
  have hB3 := step_below hB2 hb3
  have K1 := J1'.later hb3
  have K2 := J2.later hb3
  have hq := equalL u1 u2 ls ls w3 K1 K2 (by omega)
  rw [show decide (ls = ls) = true by simp] at hq
  clear hl J1' J2 hB2 hb3 K1 K2
  go_wp2_with fail
  refine hq.mono ?_
  rintro e w4 ⟨rfl, hb4⟩
  have hB4 := step_below hB3 hb4
  clear hq hB3 hb4
  go_wp2
  go_ret
  exact ⟨rfl, hB4⟩

end Go.Proofs.Ytjbcfflbfnddeac
