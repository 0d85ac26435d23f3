/- What the laws on ledgers ask of the ledger's two functions; the closed fact 'listed'; the walk of LedgerSays. -/
import Derived.Test.YtlfennkdknodhaaDoorRefO
import Derived.Test.YtlfennkdknodhaaDoorRefN
import Derived.Deep.RegionHeld3
namespace Go.Proofs.YtlfennkdknodhaaDoor
open Go.RowKit

def lparse (l : List UInt8) : List En × Int := if 30000 < l.length then ([], 2) else ledRead l

abbrev big : Nat := 9223372036854775807

/-- Printing, at every slice of entries. -/
def Prints : Prop := ∀ (v : Value) (es : List En) (W : World), Laid W → EntSl W v es → es.length ≤ big →
  Calls Tryd.prog 14 #[v] W fun e w' => e = .returned (.tuple #[.string ⟨(lprint es).1.toArray⟩, .int .i64 (lprint es).2]) ∧ Below W.heap.size W w'

/-- Reading, at every text. -/
def Reads : Prop := ∀ (l : List UInt8) (W : World), Laid W →
  Calls Tryd.prog 15 #[.string ⟨l.toArray⟩] W fun e w' => ∃ v, e = .returned (.tuple #[v, .int .i64 (lparse l).2]) ∧ EntSl w' v (lparse l).1 ∧ Below W.heap.size W w'

theorem zero_txt : En.zero.txt = [106, 117, 110, 107] := by decide
theorem zero_chk : En.zero.chk = 0 := by decide
def two : List En := [e1, En.zero]
theorem two_rows : rowsOf two = [112, 117, 116, 32, 50, 32, 53, 32, 49, 48, 10, 106, 117, 110, 107, 10] := by
  simp only [rowsOf, two, List.map_cons, List.map_nil, e1_txt, zero_txt]; decide
theorem two_ok : ∀ e, e ∈ two → e.chk = 0 := by
  intro e he
  simp only [two, List.mem_cons, List.not_mem_nil, or_false] at he
  rcases he with rfl | rfl
  · exact e1_chk
  · exact zero_chk
theorem two_print : lprint two = ([112, 117, 116, 32, 50, 32, 53, 32, 49, 48, 10, 106, 117, 110, 107, 10], 0) := by rw [lprint_good (by decide) two_ok, two_rows]
theorem two_parse : lparse [112, 117, 116, 32, 50, 32, 53, 32, 49, 48, 10, 106, 117, 110, 107, 10] = (two, 0) := by
  rw [lparse, if_neg (by decide), ← two_rows, ledRead_rows two_ok (by decide)]
theorem junk_parse : lparse [106, 117, 110, 107] = ([], 9) := by
  rw [lparse, if_neg (by decide), ledRead]
  exact lread_torn (a := [106, 117, 110, 107]) (b := []) _ _ (by decide) (by decide)

/-- A block of entries' cells, as a slice. -/
theorem entSl_lit {W : World} {b c : Nat} {es : List En} {cs : Array Value} {T : TypeId} (hb : W.heap[b]? = some (.cells cs T)) (h : cs.toList = es.flatMap En.cells) : EntSl W (.slice (some ⟨b, 0, none⟩) es.length c) es := by
  refine ⟨_, c, rfl, Or.inr ⟨b, 0, rfl, fun j e hj i u hi => ?_⟩⟩
  rw [Joins.cell_of_block hb, Nat.zero_add, ← Array.getElem?_toList, h]
  exact flat_at es j e hj i u hi

theorem EntSl.form {W : World} {v : Value} {es : List En} (h : EntSl W v es) (h0 : 0 < es.length) : ∃ b off c, v = .slice (some ⟨b, off, none⟩) es.length c ∧ EntsAt W b off es := by
  obtain ⟨a, c, rfl, hc⟩ := h
  rcases hc with hc | ⟨b, off, rfl, hE⟩
  · omega
  · exact ⟨b, off, c, rfl, hE⟩

set_option maxHeartbeats 2000000 in
theorem listed_any (hP : Prints) (hR : Reads) (w : World) (hL : Laid w) :
    Calls Tryd.prog 17 #[] w fun e w' => e = .returned (.bool true) ∧ Below w.heap.size w w' := by
  have hp := fun v W hW hv => hP v two W hW hv (by decide)
  rw [two_print] at hp
  have hq := hR [112, 117, 116, 32, 50, 32, 53, 32, 49, 48, 10, 106, 117, 110, 107, 10]
  rw [two_parse] at hq
  have hr := hR [106, 117, 110, 107]
  rw [junk_parse] at hr
  go_enter Tryd.func17, Tryd.ntmps17
  go_wp2_with fail
  refine (put_any _ _ _ _).mono ?_
  rintro e w1 ⟨rfl, rfl⟩
  go_wp2_with fail
  have hn := heap_new (w.alloc (boxE 1 2 5 10 0)) (.cells #[.int .i64 1, .int .i64 2, .int .i64 5, .int .i64 10, .int .i64 0, .int .i64 0, .int .i64 0, .int .i64 0, .int .i64 0, .int .i64 0] 23)
  rw [World.size_alloc] at hn
  refine (hp _ _ (hL.later (grew (grew (Below.refl _ _) _) _)) (entSl_lit (es := two) hn rfl)).mono ?_
  rintro e w2 ⟨rfl, hb2⟩
  have hB2 : Below w.heap.size w w2 := (grew (grew (Below.refl _ _) _) _).trans (hb2.mono (by simp; omega))
  clear hb2 hn hp
  go_wp2_with fail
  refine (hq _ (hL.later hB2)).mono ?_
  rintro e w3 ⟨v3, rfl, hE3, hb3⟩
  obtain ⟨b, off, c, rfl, hE⟩ := hE3.form (by decide)
  have hB3 : Below w.heap.size w w3 := hB2.trans (hb3.mono hB2.size)
  clear hb3 hB2 hE3 hq
  go_wp2_with fail
  refine (hr _ (hL.later hB3)).mono ?_
  rintro e w4 ⟨v4, rfl, hE4, hb4⟩
  have hB4 : Below w.heap.size w w4 := hB3.trans (hb4.mono hB3.size)
  have hE5 := hE.later hb4
  clear hb4 hB3 hE hr
  obtain ⟨a4, c4, rfl, _⟩ := hE4
  have k0 : w4.cell? ⟨b, off, none⟩ = some (.int .i64 1) := hE5 0 e1 rfl 0 _ rfl
  have k1 : w4.cell? ⟨b, off + 1, none⟩ = some (.int .i64 2) := hE5 0 e1 rfl 1 _ rfl
  have k2 : w4.cell? ⟨b, off + 2, none⟩ = some (.int .i64 5) := hE5 0 e1 rfl 2 _ rfl
  have k3 : w4.cell? ⟨b, off + 3, none⟩ = some (.int .i64 10) := hE5 0 e1 rfl 3 _ rfl
  have k4 : w4.cell? ⟨b, off + 4, none⟩ = some (.int .i64 0) := hE5 0 e1 rfl 4 _ rfl
  clear hE5
  have h2 : two.length = 2 := rfl
  rw [h2]
  have hne : ∀ W, (binOp .eql 23 (ev 1 2 5 10 0) (ev 1 2 5 10 0)).run Tryd.prog W = .ok (.bool true) W := fun W => eql_entry 1 2 5 10 0 1 2 5 10 0 W
  go_wp2_with fail
  go_region_held3 (fun w' => w'.cell? ⟨b, off, none⟩ = some (.int .i64 1) ∧ w'.cell? ⟨b, off + 1, none⟩ = some (.int .i64 2) ∧ w'.cell? ⟨b, off + 2, none⟩ = some (.int .i64 5) ∧ w'.cell? ⟨b, off + 3, none⟩ = some (.int .i64 10) ∧ w'.cell? ⟨b, off + 4, none⟩ = some (.int .i64 0)) (go_keep) (first | (go_at_call 28; refine (put_any _ _ _ _).mono ?_; rintro e w' ⟨rfl, rfl⟩))
  all_goals
    go_wp2
    go_ret
    refine ⟨rfl, ?_⟩
    repeat (first | exact hB4 | refine Below.drew ?_ | refine grew ?_ _)

end Go.Proofs.YtlfennkdknodhaaDoor
