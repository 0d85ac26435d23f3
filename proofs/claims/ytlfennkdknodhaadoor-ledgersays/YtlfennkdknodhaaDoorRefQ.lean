/- The walk of the law LedgerSays. -/
import Derived.Test.YtlfennkdknodhaaDoorRefP
namespace Go.Proofs.YtlfennkdknodhaaDoor
open Go.RowKit

set_option maxHeartbeats 1000000 in
theorem ledText_nil (a : Option Addr) (c : Nat) (w : World) :
    Calls Tryd.prog 16 #[.slice a 0 c] w fun e w' => e = .returned (.tuple #[.string ⟨#[]⟩, .int .i64 0]) ∧ Below w.heap.size w w' := by
  go_enter Tryd.func16, Tryd.ntmps16
  go_wp2
  go_loopw [4, 13] (fun s i wr => s = .string ⟨#[]⟩ ∧ i = .int .i64 0 ∧ wr = w) (fun _ _ _ => 0)
  case atStart => exact ⟨rfl, rfl, rfl⟩
  case round =>
    obtain ⟨rfl, rfl, rfl⟩ := hrel
    go_wp2
    go_ret2
    exact ⟨rfl, Below.refl _ _⟩

/-- The reference's LedgerText, at every slice of entries. -/
theorem ref_ledText (v : Value) (es : List En) (w : World) (hL : Laid w) (hv : EntSl w v es) (hn : es.length ≤ big) :
    Calls Tryd.prog 16 #[v] w fun e w' => e = .returned (.tuple #[.string ⟨(lprint es).1.toArray⟩, .int .i64 (lprint es).2]) ∧ Below w.heap.size w w' := by
  obtain ⟨a, c, rfl, hc⟩ := hv
  by_cases h60 : 60 < es.length
  · rw [lprint_many h60]
    exact (ledText_many a es.length c w (by omega)).mono fun e w' ⟨he, hw⟩ => ⟨he, by rw [hw]; exact Below.refl _ _⟩
  · rcases hc with h0 | ⟨b, off, rfl, hE⟩
    · obtain rfl : es = [] := List.length_eq_zero_iff.1 h0
      exact ledText_nil a c w
    · exact ledText_few b off c es es.length w hL rfl (by omega) hE

theorem lread_length : ∀ (f : Nat) (l : List UInt8) (acc : List En), (lread f l acc).1.length ≤ acc.length + f
  | 0, l, acc => by simp [lread]
  | f + 1, l, acc => by
    rw [lread]
    repeat' split
    all_goals first
      | (simp; done)
      | (simp; omega)
      | (have := lread_length f (Lib.cut l [10]).2.1 (acc ++ [(prs (Lib.cut l [10]).1).1]); simp at this ⊢; omega)

theorem ledRead_length (l : List UInt8) : (ledRead l).1.length ≤ l.length + 1 := by
  have := lread_length (l.length + 1) l []
  simpa [ledRead] using this

set_option maxHeartbeats 1000000 in
theorem ledSaysL (hP : Prints) (hR : Reads) (v : Value) (es : List En) (l : List UInt8) (w : World) (hL : Laid w) (hv : EntSl w v es) (hn : es.length ≤ big) (hl : 30000 < (l.length : Int)) :
    Calls Tryd.prog 5 #[v, .string ⟨l.toArray⟩] w fun e w' => e = .returned (.bool true) ∧ Below w.heap.size w w' := by
  have hp := fun W hW hv => hP v es W hW hv hn
  have ht := fun W hW hv => ref_ledText v es W hW hv hn
  have hr := hR l
  rw [show lparse l = ([], 2) from if_pos (by omega)] at hr
  have HV : Hid (EntSl w v es) := hv
  clear hv
  generalize (lprint es).1 = t at *
  generalize (lprint es).2 = f at *
  go_enter Tryd.func5, Tryd.ntmps5
  go_wp2_with fail
  refine (hp _ hL HV.out).mono ?_
  rintro e w1 ⟨rfl, hB1⟩
  clear hp
  go_wp2_with fail
  refine (hr _ (hL.later hB1)).mono ?_
  rintro e w2 ⟨v2, rfl, hE2, hb2⟩
  have hB2 : Below w.heap.size w w2 := hB1.trans (hb2.mono hB1.size)
  obtain ⟨a2, c2, rfl, _⟩ := hE2
  clear hb2 hB1 hr
  go_wp2_with fail
  refine (ht _ (hL.later hB2) (HV.out.later hB2)).mono ?_
  rintro e w3 ⟨rfl, hb3⟩
  have hB3 : Below w.heap.size w w3 := hB2.trans (hb3.mono hB2.size)
  clear hb3 hB2 ht
  go_wp2_with fail
  refine (listed_any hP hR _ (hL.later hB3)).mono ?_
  rintro e w4 ⟨rfl, hb4⟩
  have hB4 : Below w.heap.size w w4 := hB3.trans (hb4.mono hB3.size)
  clear hb4 hB3
  go_wp2
  go_ret
  exact ⟨rfl, hB4⟩

set_option maxHeartbeats 1000000 in
theorem ledSaysS (hP : Prints) (hR : Reads) (v : Value) (es : List En) (l : List UInt8) (w : World) (hL : Laid w) (hv : EntSl w v es) (hn : es.length ≤ big) (hl : (l.length : Int) ≤ 30000) :
    Calls Tryd.prog 5 #[v, .string ⟨l.toArray⟩] w fun e w' => e = .returned (.bool true) ∧ Below w.heap.size w w' := by
  have hp := fun W hW hv => hP v es W hW hv hn
  have ht := fun W hW hv => ref_ledText v es W hW hv hn
  have hr := hR l
  rw [show lparse l = ledRead l from if_neg (by omega)] at hr
  have hm := fun W hW => ref_ledRead l W hW (by omega)
  have hgl : (ledRead l).1.length ≤ big := by have := ledRead_length l; unfold big; omega
  have HV : Hid (EntSl w v es) := hv
  clear hv
  generalize (lprint es).1 = t at *
  generalize (lprint es).2 = f at *
  generalize (ledRead l).1 = gs at *
  generalize (ledRead l).2 = g at *
  go_enter Tryd.func5, Tryd.ntmps5
  go_wp2_with fail
  refine (hp _ hL HV.out).mono ?_
  rintro e w1 ⟨rfl, hB1⟩
  clear hp
  go_wp2_with fail
  refine (hr _ (hL.later hB1)).mono ?_
  rintro e w2 ⟨v2, rfl, hE2, hb2⟩
  have hB2 : Below w.heap.size w w2 := hB1.trans (hb2.mono hB1.size)
  clear hb2 hB1 hr
  go_wp2_with fail
  refine (ht _ (hL.later hB2) (HV.out.later hB2)).mono ?_
  rintro e w3 ⟨rfl, hb3⟩
  have hB3 : Below w.heap.size w w3 := hB2.trans (hb3.mono hB2.size)
  have hE3 := hE2.later hb3
  clear hb3 hB2 ht hE2
  go_wp2_with fail
  refine (listed_any hP hR _ (hL.later hB3)).mono ?_
  rintro e w4 ⟨rfl, hb4⟩
  have hB4 : Below w.heap.size w w4 := hB3.trans (hb4.mono hB3.size)
  have hE4 := hE3.later hb4
  clear hb4 hB3 hE3
  go_wp2_with fail
  refine (hm _ (hL.later hB4)).mono ?_
  rintro e w5 ⟨v5, rfl, hO5, hb5⟩
  have hB5 : Below w.heap.size w w5 := hB4.trans (hb5.mono hB4.size)
  have hE5 := hE4.later hb5
  have hF5 := entSl_of_owns hO5
  clear hb5 hB4 hE4 hO5 hm
  have heq : Calls Tryd.prog 19 #[v2, v5] w5 fun r w' => r = .returned (.bool true) ∧ Below w.heap.size w w' :=
    (equal_ents v2 v5 gs gs w5 hE5 hF5 hgl hgl).mono fun r w' ⟨bb, hr, hi, q, hw⟩ => ⟨by rw [hr, hi.2 rfl], by rw [hw]; exact below_drewN hB5 _⟩
  clear hE5 hF5
  go_wp2_with fail
  refine heq.mono ?_
  rintro e w6 ⟨rfl, hB6⟩
  go_wp2
  go_ret
  exact ⟨rfl, hB6⟩

theorem ledSays_any (hP : Prints) (hR : Reads) (v : Value) (es : List En) (s : ByteArray) (w : World) (hL : Laid w) (hv : EntSl w v es) (hn : es.length ≤ big) :
    Calls Tryd.prog 5 #[v, .string s] w fun e w' => e = .returned (.bool true) ∧ Below w.heap.size w w' := by
  obtain ⟨⟨l⟩⟩ := s
  by_cases h : 30000 < (l.length : Int)
  · exact ledSaysL hP hR v es l w hL hv hn h
  · exact ledSaysS hP hR v es l w hL hv hn (by omega)

end Go.Proofs.YtlfennkdknodhaaDoor
