/- What the laws on records ask of package note; the closed fact 'noted'; the walk of NoteSays. -/
import Derived.Test.YtijcohldgjcjgacDoorNoteE
namespace Go.Proofs.YtijcohldgjcjgacDoor
open Go.RowKit

/-- Package note's three functions, at every record and text. -/
structure Notes : Prop where
  check : ∀ (r : Rc) (W : World), Laid W → Calls Tryd.prog 9 #[r.val] W fun e w' => e = .returned (.int .i64 r.chk) ∧ Below W.heap.size W w'
  print : ∀ (r : Rc) (W : World), Laid W → Calls Tryd.prog 5 #[r.val] W fun e w' => e = .returned (.tuple #[.string ⟨r.ptx.toArray⟩, .int .i64 r.chk]) ∧ Below W.heap.size W w'
  parse : ∀ (s : ByteArray) (W : World), Laid W → Calls Tryd.prog 6 #[.string s] W fun e w' => e = .returned (.tuple #[(rcPrs s.data.toList).1.val, .int .i64 (rcPrs s.data.toList).2]) ∧ Below W.heap.size W w'

def r1 : Rc := ⟨1, 7, 0, e1⟩
def r2 : Rc := ⟨2, 0, 3, En.zero⟩
theorem r1_chk : r1.chk = 0 := by decide
theorem r2_chk : r2.chk = 0 := by decide
theorem r1_ptx : r1.ptx = [55, 58, 32, 112, 117, 116, 32, 50, 32, 53, 32, 49, 48] := by
  rw [Rc.ptx, if_pos r1_chk, Rc.txt, if_neg (by decide)]
  show Lib.itoa ((7 : Nat) : Int) ++ ([58, 32] ++ e1.txt) = _
  rw [itoa1 7 (by omega), e1_txt]
  decide
theorem r2_ptx : r2.ptx = [115, 101, 97, 108, 32, 51] := by
  rw [Rc.ptx, if_pos r2_chk, Rc.txt, if_pos (by decide)]
  show sealL ++ Lib.itoa ((3 : Nat) : Int) = _
  rw [itoa1 3 (by omega)]
  decide
theorem r1_prs : rcPrs [55, 58, 32, 112, 117, 116, 32, 50, 32, 53, 32, 49, 48] = (r1, 0) := by
  have h := read_txt r1_chk
  have e : r1.txt = [55, 58, 32, 112, 117, 116, 32, 50, 32, 53, 32, 49, 48] := by rw [← r1_ptx, Rc.ptx, if_pos r1_chk]
  rw [e] at h
  rw [rcPrs, if_neg (by decide), h]

/-- A record in its box. -/
abbrev BxS (W w : World) (b : Nat) (r : Rc) : Prop :=
  Below W.heap.size W w ∧ w.cell? ⟨b, 0, none⟩ = some (.int .i64 r.k) ∧ w.cell? ⟨b, 1, none⟩ = some (.int .i64 r.a) ∧ w.cell? ⟨b, 2, none⟩ = some (.int .i64 r.p) ∧ w.cell? ⟨b, 3, none⟩ = some (.int .i64 r.e.k) ∧ w.cell? ⟨b, 4, none⟩ = some (.int .i64 r.e.j) ∧ w.cell? ⟨b, 5, none⟩ = some (.int .i64 r.e.v) ∧ w.cell? ⟨b, 6, none⟩ = some (.int .i64 r.e.t) ∧ w.cell? ⟨b, 7, none⟩ = some (.int .i64 r.e.c)

theorem bxS_step {W w w' : World} {b : Nat} {r : Rc} (h : BxS W w b r) (hb : Below w.heap.size w w') : BxS W w' b r :=
  ⟨h.1.trans (hb.mono h.1.size), cell_later hb h.2.1, cell_later hb h.2.2.1, cell_later hb h.2.2.2.1, cell_later hb h.2.2.2.2.1, cell_later hb h.2.2.2.2.2.1, cell_later hb h.2.2.2.2.2.2.1, cell_later hb h.2.2.2.2.2.2.2.1, cell_later hb h.2.2.2.2.2.2.2.2⟩

theorem bxS_new (w : World) (r : Rc) : BxS (w.alloc (boxRc r)) (w.alloc (boxRc r)) w.heap.size r := by
  have hx : (w.alloc (boxRc r)).heap[w.heap.size]? = some (boxRc r) := heap_new _ _
  exact ⟨Below.refl _ _, Joins.cell_of_block hx 0, Joins.cell_of_block hx 1, Joins.cell_of_block hx 2, Joins.cell_of_block hx 3, Joins.cell_of_block hx 4, Joins.cell_of_block hx 5, Joins.cell_of_block hx 6, Joins.cell_of_block hx 7⟩

theorem put_n (a b c : Int) (w : World) : Calls Tryd.prog 16 #[.int .i64 a, .int .i64 b, .int .i64 c] w fun e w' => e = .returned (ev 1 a b c 0) ∧ Below w.heap.size w w' :=
  (put_any a b c w).mono fun _ _ ⟨h1, h2⟩ => ⟨h1, by rw [h2]; exact grew (Below.refl _ _) _⟩

set_option maxHeartbeats 2000000 in
theorem noted_any (hK : Notes) (w : World) (hL : Laid w) :
    Calls Tryd.prog 8 #[] w fun e w' => e = .returned (.bool true) ∧ Below w.heap.size w w' := by
  have hp1 := fun W hW => hK.print r1 W hW
  rw [r1_ptx, r1_chk] at hp1
  have hp2 := fun W hW => hK.print r2 W hW
  rw [r2_ptx, r2_chk] at hp2
  have hq := fun W hW => hK.parse ⟨#[55, 58, 32, 112, 117, 116, 32, 50, 32, 53, 32, 49, 48]⟩ W hW
  rw [show rcPrs (⟨#[55, 58, 32, 112, 117, 116, 32, 50, 32, 53, 32, 49, 48]⟩ : ByteArray).data.toList = (r1, 0) from r1_prs] at hq
  have heq : ∀ W, (binOp .eql 25 r1.val (.agg #[.int .i64 1, .int .i64 7, .int .i64 0, .int .i64 1, .int .i64 2, .int .i64 5, .int .i64 10, .int .i64 0])).run Tryd.prog W = .ok (.bool true) W := fun W => (eqlR r1 r1 W).trans (by rw [same_self])
  clear hK
  go_enter Tryd.func8, Tryd.ntmps8
  go_wp2_with fail
  refine (put_n _ _ _ _).mono ?_
  rintro e w1 ⟨rfl, hb1⟩
  go_wp2_with fail
  refine (hp1 _ (hL.later hb1)).mono ?_
  rintro e w2 ⟨rfl, hb2⟩
  have hB2 := step_below1 hb1 hb2
  clear hb1 hb2 hp1
  go_wp2_with fail
  refine (hp2 _ (hL.later hB2)).mono ?_
  rintro e w3 ⟨rfl, hb3⟩
  have hB3 := step_below1 hB2 hb3
  clear hB2 hb3 hp2
  go_wp2_with fail
  refine (hq _ (hL.later hB3)).mono ?_
  rintro e w4 ⟨rfl, hb4⟩
  have hB4 := step_below1 hB3 hb4
  clear hB3 hb4 hq
  have hS0 := bxS_new w4 r1
  have HB : Aside (Below w.heap.size w (w4.alloc (boxRc r1))) := grew hB4 _
  clear hB4 hL
  go_wp2_with fail
  generalize w4.alloc (boxRc r1) = V at *
  generalize w4.heap.size = bb at *
  have hbd : Below V.heap.size V V.drew := (Below.refl _ _).drew
  go_region_held3 (fun w' => BxS V w' bb r1) (exact bxS_step (by assumption) (by assumption)) (first | (go_at_call 16; refine (put_n _ _ _ _).mono ?_; rintro e w' ⟨rfl, hb'⟩))
  all_goals
    rename_i hS
    have HB2 : Aside (Below w.heap.size w _) := HB.out.trans (hS.1.mono HB.out.size)
    clear hS hS0 hbd HB
    go_wp2
    go_ret
    exact ⟨by simp, HB2.out⟩

end Go.Proofs.YtijcohldgjcjgacDoor
