/- The reference's table of jobs. The walk of the reference's Applied. The reference's Applied at every book and entry; the walk of its BookOf. -/
import Derived.Test.YtbokdcdnandgbaeBookW
import Derived.Deep.DeepCutAuto
import Derived.Deep.RegionLaw
import Derived.Deep.AppendLies
import Derived.Deep.CutBlock
namespace Go.Proofs.Ytbokdcdnandgbae
open Go.RowKit

/-- The jobs of a table, in order. -/
def untab (f : Int → Option Jb) : List Jb := (List.range 6).filterMap fun (i : Nat) => f (i : Int)

theorem untab_srt (f : Int → Option Jb) (hf : ∀ i x, f i = some x → x.i = i) : ∀ (n lo : Nat), Srt ((lo : Int) - 1) ((List.range' lo n).filterMap fun (i : Nat) => f (i : Int))
  | 0, _ => trivial
  | n + 1, lo => by
    have ih := untab_srt f hf n (lo + 1)
    rw [List.range'_succ, List.filterMap_cons]
    cases hx : f lo with
    | none => exact ih.mono (by omega)
    | some x =>
      have := hf _ _ hx
      exact ⟨by omega, ih.mono (by omega)⟩

theorem untab_eq {f : Int → Option Jb} {js : List Jb} (hf : ∀ i x, f i = some x → x.i = i) (hs : Srt (-1) js) (hb : ∀ x, x ∈ js → x.i ≤ 5) (h : ∀ i, 0 ≤ i → i ≤ 5 → f i = tab js i) : untab f = js := by
  have h1 : Srt (-1) (untab f) := by
    have := untab_srt f hf 6 0
    rw [← List.range_eq_range'] at this
    exact this
  refine srt_ext h1 hs fun x => ?_
  rw [untab, List.mem_filterMap]
  constructor
  · rintro ⟨i, hi, hx⟩
    have hi' := List.mem_range.1 hi
    rw [h i (by omega) (by omega)] at hx
    exact (tab_id hx).2
  · intro hx
    have h0 := hs.above x hx
    have h5 := hb x hx
    refine ⟨x.i.toNat, List.mem_range.2 (by omega), ?_⟩
    rw [show ((x.i.toNat : Nat) : Int) = x.i by omega, h _ (by omega) h5]
    exact tab_mem hs x hx

theorem tab_take {l : Int} {js : List Jb} {k : Nat} {x : Jb} (hs : Srt l js) (hx : js[k]? = some x) (i : Int) : tab (js.take (k + 1)) i = if i = x.i then some x else tab (js.take k) i := by
  rw [List.take_add_one, hx, Option.toList_some, tab, List.find?_append]
  have hn : i = x.i → tab (js.take k) i = none := fun e => by
    rw [tab_none]
    intro y hy he
    have hsx : ∀ {l : Int} {js : List Jb} {k : Nat}, Srt l js → js[k]? = some x → ∀ y, y ∈ js.take k → y.i < x.i := by
      intro l js
      induction js generalizing l with
      | nil => intro k _ h; simp at h
      | cons z r ih =>
        intro k h hk y hy
        cases k with
        | zero => simp at hy
        | succ k =>
          have hxr : x ∈ r := List.mem_of_getElem? (by simpa using hk)
          rw [List.take_succ_cons] at hy
          rcases List.mem_cons.1 hy with rfl | hy
          · exact h.2.above x hxr
          · exact ih h.2 (by simpa using hk) y hy
    have := hsx hs hx y hy
    omega
  by_cases he : i = x.i
  · rw [if_pos he]
    have := hn he
    rw [tab] at this
    rw [this, he]
    simp
  · rw [if_neg he]
    have : List.find? (fun y : Jb => y.i == i) [x] = none := by simp; omega
    rw [this, Option.or_none, tab]

/-- What a pointer of the table says. -/
def PtrIs (w : World) (p : Value) : Option Jb → Prop
  | none => p = .pointer none
  | some y => ∃ b, p = .pointer (some ⟨b, 0, none⟩) ∧ w.heap[b]? = some (boxJ y)

/-- The table in its block. -/
def TabAt (w : World) (tb : Nat) (f : Int → Option Jb) : Prop :=
  ∃ p0 p1 p2 p3 p4 p5, w.heap[tb]? = some (.cells #[p0, p1, p2, p3, p4, p5] 114) ∧ PtrIs w p0 (f 0) ∧ PtrIs w p1 (f 1) ∧ PtrIs w p2 (f 2) ∧ PtrIs w p3 (f 3) ∧ PtrIs w p4 (f 4) ∧ PtrIs w p5 (f 5)

theorem PtrIs.later {w w' : World} {p : Value} {o : Option Jb} (h : PtrIs w p o) (hk : ∀ (b : Nat) (y : Jb), w.heap[b]? = some (boxJ y) → w'.heap[b]? = some (boxJ y)) : PtrIs w' p o := by
  cases o with
  | none => exact h
  | some y => obtain ⟨b, e, hb⟩ := h; exact ⟨b, e, hk b y hb⟩

theorem TabAt.later {w w' : World} {tb : Nat} {f : Int → Option Jb} (h : TabAt w tb f) (ht : w'.heap[tb]? = w.heap[tb]?) (hk : ∀ (b : Nat) (y : Jb), w.heap[b]? = some (boxJ y) → w'.heap[b]? = some (boxJ y)) : TabAt w' tb f := by
  obtain ⟨p0, p1, p2, p3, p4, p5, hb, h0, h1, h2, h3, h4, h5⟩ := h
  exact ⟨p0, p1, p2, p3, p4, p5, by rw [ht]; exact hb, h0.later hk, h1.later hk, h2.later hk, h3.later hk, h4.later hk, h5.later hk⟩

theorem TabAt.lt {w : World} {tb : Nat} {f : Int → Option Jb} (h : TabAt w tb f) : tb < w.heap.size := by
  obtain ⟨p0, p1, p2, p3, p4, p5, hb, _⟩ := h
  exact heap_lt hb

theorem TabAt.below {w w' : World} {tb : Nat} {f : Int → Option Jb} (h : TabAt w tb f) (hb : Below w.heap.size w w') : TabAt w' tb f :=
  h.later (hb.block _ h.lt) (fun _ _ hy => heap_below hy hb (heap_lt hy))

theorem TabAt.alloc {w : World} {tb : Nat} {f : Int → Option Jb} (h : TabAt w tb f) (o : Obj) : TabAt (w.alloc o) tb f :=
  h.later (Below.heap_alloc _ _ _ h.lt) (fun _ _ hy => heap_old hy o)

/-- A pointer written into the table. -/
theorem TabAt.set {w : World} {tb : Nat} {f : Int → Option Jb} (h : TabAt w tb f) (i : Int) (i0 : 0 ≤ i) (i5 : i ≤ 5) (p : Value) (o : Option Jb) (hp : PtrIs w p o) :
    TabAt (w.setCell ⟨tb, i.toNat, none⟩ p) tb (fun k => if k = i then o else f k) := by
  obtain ⟨p0, p1, p2, p3, p4, p5, hb, h0, h1, h2, h3, h4, h5⟩ := h
  have hk : ∀ (b : Nat) (y : Jb), w.heap[b]? = some (boxJ y) → (w.setCell ⟨tb, i.toNat, none⟩ p).heap[b]? = some (boxJ y) := fun b y hy => by
    rw [Below.heap_setCell _ _ _ _ (fun e => by
      have e' : b = tb := e
      rw [e', hb] at hy
      injection hy with hy
      injection hy with _ hy
      cases hy)]
    exact hy
  have hi : i = 0 ∨ i = 1 ∨ i = 2 ∨ i = 3 ∨ i = 4 ∨ i = 5 := by omega
  rcases hi with rfl | rfl | rfl | rfl | rfl | rfl
  · exact ⟨p, p1, p2, p3, p4, p5, by rw [Joins.block_setCell hb]; rfl, hp.later hk, h1.later hk, h2.later hk, h3.later hk, h4.later hk, h5.later hk⟩
  · exact ⟨p0, p, p2, p3, p4, p5, by rw [Joins.block_setCell hb]; rfl, h0.later hk, hp.later hk, h2.later hk, h3.later hk, h4.later hk, h5.later hk⟩
  · exact ⟨p0, p1, p, p3, p4, p5, by rw [Joins.block_setCell hb]; rfl, h0.later hk, h1.later hk, hp.later hk, h3.later hk, h4.later hk, h5.later hk⟩
  · exact ⟨p0, p1, p2, p, p4, p5, by rw [Joins.block_setCell hb]; rfl, h0.later hk, h1.later hk, h2.later hk, hp.later hk, h4.later hk, h5.later hk⟩
  · exact ⟨p0, p1, p2, p3, p, p5, by rw [Joins.block_setCell hb]; rfl, h0.later hk, h1.later hk, h2.later hk, h3.later hk, hp.later hk, h5.later hk⟩
  · exact ⟨p0, p1, p2, p3, p4, p, by rw [Joins.block_setCell hb]; rfl, h0.later hk, h1.later hk, h2.later hk, h3.later hk, h4.later hk, hp.later hk⟩

/-- A place of the table. -/
theorem TabAt.get {w : World} {tb : Nat} {f : Int → Option Jb} (h : TabAt w tb f) (i : Int) (i0 : 0 ≤ i) (i5 : i ≤ 5) : ∃ p, w.cell? ⟨tb, i.toNat, none⟩ = some p ∧ PtrIs w p (f i) := by
  obtain ⟨p0, p1, p2, p3, p4, p5, hb, h0, h1, h2, h3, h4, h5⟩ := h
  have hi : i = 0 ∨ i = 1 ∨ i = 2 ∨ i = 3 ∨ i = 4 ∨ i = 5 := by omega
  rcases hi with rfl | rfl | rfl | rfl | rfl | rfl
  · exact ⟨p0, by rw [Joins.cell_of_block hb]; rfl, h0⟩
  · exact ⟨p1, by rw [Joins.cell_of_block hb]; rfl, h1⟩
  · exact ⟨p2, by rw [Joins.cell_of_block hb]; rfl, h2⟩
  · exact ⟨p3, by rw [Joins.cell_of_block hb]; rfl, h3⟩
  · exact ⟨p4, by rw [Joins.cell_of_block hb]; rfl, h4⟩
  · exact ⟨p5, by rw [Joins.cell_of_block hb]; rfl, h5⟩

theorem TabAt.frozen {w : World} {tb : Nat} {f : Int → Option Jb} (h : TabAt w tb f) (i : Nat) : w.frozen? ⟨tb, i, none⟩ = false := by
  obtain ⟨p0, p1, p2, p3, p4, p5, hb, _⟩ := h
  exact Joins.unfrozen_of_block hb i

end Go.Proofs.Ytbokdcdnandgbae
namespace Go.Proofs.Ytbokdcdnandgbae
open Go.RowKit

/-- A table with another pointer. -/
def upd (f : Int → Option Jb) (i : Int) (o : Option Jb) : Int → Option Jb := fun k => if k = i then o else f k

theorem upd_id {js : List Jb} {i : Int} {o : Option Jb} (ho : ∀ y, o = some y → y.i = i) (k : Int) (y : Jb) (h : upd (tab js) i o k = some y) : y.i = k := by
  unfold upd at h
  split at h
  · rename_i e; rw [e]; exact ho y h
  · exact (tab_id h).1

theorem untab_alt {js : List Jb} {rs : List Rg} (hok : Ok js rs) {i : Int} {o : Option Jb} (i0 : 0 ≤ i) (i5 : i ≤ 5) (ho : ∀ y, o = some y → y.i = i) : untab (upd (tab js) i o) = alt js i o := by
  refine untab_eq (upd_id ho) (alt_srt hok.srt (by omega) ho) (fun y hy => ?_) (fun k _ _ => (tab_alt hok.srt (by omega) ho k).symm)
  rcases alt_mem.1 hy with ⟨h, _⟩ | h
  · exact (Jb.good (hok.jobs y h)).1.2
  · have := ho y h; omega

theorem untab_same {js : List Jb} {rs : List Rg} (hok : Ok js rs) : untab (tab js) = js :=
  untab_eq (fun _ _ h => (tab_id h).1) hok.srt (fun y hy => (Jb.good (hok.jobs y hy)).1.2) (fun _ _ _ => rfl)

/-- The jobs of the table's first places. -/
def pre (f : Int → Option Jb) (k : Nat) : List Jb := (List.range k).filterMap fun (i : Nat) => f (i : Int)
theorem pre_none {f : Int → Option Jb} {k : Nat} (h : f k = none) : pre f (k + 1) = pre f k := by
  rw [pre, List.range_succ, List.filterMap_append, List.filterMap_cons, h]; simp [pre]
theorem pre_some {f : Int → Option Jb} {k : Nat} {y : Jb} (h : f k = some y) : pre f (k + 1) = pre f k ++ [y] := by
  rw [pre, List.range_succ, List.filterMap_append, List.filterMap_cons, h]; simp [pre]
theorem pre_len (f : Int → Option Jb) (k : Nat) : (pre f k).length ≤ k := by
  have := List.length_filterMap_le (fun (i : Nat) => f (i : Int)) (List.range k)
  simpa [pre] using this

set_option maxHeartbeats 4000000 in
set_option maxRecDepth 100000 in
theorem ref_app_ok (a1 a2 : Option Addr) (n1 n2 c1 c2 : Nat) (js : List Jb) (rs : List Rg) (x : En) (w : World) (h1 : JobSl w (.slice a1 n1 c1) js) (h2 : RungSl w (.slice a2 n2 c2) rs) (hok : Ok js rs) (hx : x.chk = 0) :
    Calls Try.prog 65 #[.agg #[.slice a1 n1 c1, .slice a2 n2 c2], x.val] w fun e w' => ∃ u1 u2, e = .returned (.tuple #[.agg #[u1, u2], .int .i64 0]) ∧ JobSl w' u1 (step js rs x).1 ∧ RungSl w' u2 (step js rs x).2 ∧ Below w.heap.size w w' ∧ Roomy u2 ∧ Typed 64 w' u1 ∧ Typed 91 w' u2 := by
  have L1 : Hid (js.length = n1) := h1.len
  have L2 : Hid (rs.length = n2) := h2.len
  have H1 : Hid (JobSl w (.slice a1 n1 c1) js) := h1
  have H2 : Hid (RungSl w (.slice a2 n2 c2) rs) := h2
  have HO : Hid (Ok js rs) := hok
  have hck := fun W g1 g2 => ref_ckBook (.slice a1 n1 c1) (.slice a2 n2 c2) js rs W g1 g2
  rw [ckBook_zero.2 hok] at hck
  have hce := fun W => ref_check x.k x.j x.v x.t x.c W
  rw [show chk x.k x.j x.v x.t x.c = 0 from hx] at hce
  have HX : Hid (x.chk = 0) := hx
  have hn6 : (n1 : Int) ≤ 6 := by have := hok.few; have := L1.out; omega
  clear h1 h2 hok hx
  go_enter Try.func65, Try.ntmps65
  go_wp2_with fail
  have hB0 := grew (grew (grew (Below.refl w.heap.size w) (boxB (.slice a1 n1 c1) (.slice a2 n2 c2))) (boxE x.k x.j x.v x.t x.c)) (boxB nil0 nil0)
  refine (hck _ (by exact H1.out.later hB0) (by exact H2.out.later hB0)).mono ?_
  rintro e w1 ⟨rfl, hb1⟩
  have y0 : w1.heap[w.heap.size]? = some (boxB (.slice a1 n1 c1) (.slice a2 n2 c2)) := by rw [hb1.block _ (by simp only [World.size_alloc]; omega)]; exact heap_old (heap_old (heap_new _ _) _) _
  have y1 : w1.heap[w.heap.size + 1]? = some (boxE x.k x.j x.v x.t x.c) := by
    rw [hb1.block _ (by simp only [World.size_alloc]; omega)]
    have := heap_new (w.alloc (boxB (.slice a1 n1 c1) (.slice a2 n2 c2))) (boxE x.k x.j x.v x.t x.c)
    rw [World.size_alloc] at this
    exact heap_old this _
  have y2 : w1.heap[w.heap.size + 2]? = some (boxB nil0 nil0) := by
    rw [hb1.block _ (by simp only [World.size_alloc]; omega)]
    have := heap_new ((w.alloc (boxB (.slice a1 n1 c1) (.slice a2 n2 c2))).alloc (boxE x.k x.j x.v x.t x.c)) (boxB nil0 nil0)
    rw [World.size_alloc, World.size_alloc] at this
    exact this
  have hB1 : Below w.heap.size w w1 := hB0.trans (hb1.mono (by simp only [World.size_alloc]; omega))
  clear hb1 hB0 hck
  have z1 : ∀ i, w1.cell? ⟨w.heap.size + 1, i, none⟩ = #[Value.int .i64 x.k, .int .i64 x.j, .int .i64 x.v, .int .i64 x.t, .int .i64 x.c][i]? := fun i => Joins.cell_of_block y1 i
  go_wp2_with fail
  refine (hce _).mono ?_
  rintro e w2 ⟨rfl, hb2⟩
  replace y0 := heap_below y0 hb2 (heap_lt y0)
  replace y1 := heap_below y1 hb2 (heap_lt y1)
  replace y2 := heap_below y2 hb2 (heap_lt y2)
  have hB2 := hB1.trans (hb2.mono hB1.size)
  clear hb2 hce z1 hB1
  have z0 : ∀ i, w2.cell? ⟨w.heap.size, i, none⟩ = #[Value.slice a1 n1 c1, .slice a2 n2 c2][i]? := fun i => Joins.cell_of_block y0 i
  have hz0 : w.heap.size < w2.heap.size := heap_lt y0
  go_wp2
  go_loopw [30] (fun i wr => ∃ k : Nat, k ≤ n1 ∧ i = .int .i64 k ∧ wr.heap[w.heap.size]? = some (boxB (.slice a1 n1 c1) (.slice a2 n2 c2)) ∧ wr.heap[w.heap.size + 1]? = some (boxE x.k x.j x.v x.t x.c) ∧ wr.heap[w.heap.size + 2]? = some (boxB nil0 nil0) ∧ TabAt wr w2.heap.size (tab (js.take k)) ∧ Below w.heap.size w wr) (fun i _ => n1 - (intOf i).toNat)
  case atStart => exact ⟨0, Nat.zero_le _, rfl, heap_old y0 _, heap_old y1 _, heap_old y2 _, ⟨_, _, _, _, _, _, heap_new _ _, rfl, rfl, rfl, rfl, rfl, rfl⟩, grew hB2 _⟩
  case round =>
    have hts : w.heap.size + 2 < w2.heap.size := heap_lt y2
    clear y0 y1 y2 z0 hB2
    obtain ⟨k, hk, rfl, y0, y1, y2, hT, hB⟩ := hrel
    generalize w2.heap.size = tb at *
    clear w2
    by_cases hlt : k < n1
    · obtain ⟨y, hy⟩ : ∃ y, js[k]? = some y := ⟨js[k]'(by have := L1.out; omega), List.getElem?_eq_getElem _⟩
      obtain ⟨b, off, rfl, hE0⟩ := H1.out.at (by omega)
      have hE := hE0.later hB
      have d0 : wr.cell? ⟨b, off + k * 3, none⟩ = some (.int .i64 y.i) := hE k y hy 0 _ rfl
      have d1 : wr.cell? ⟨b, off + k * 3 + 1, none⟩ = some (.int .i64 y.e) := hE k y hy 1 _ rfl
      have d2 : wr.cell? ⟨b, off + k * 3 + 2, none⟩ = some (.int .i64 y.n) := hE k y hy 2 _ rfl
      have hg := (Jb.good (HO.out.jobs y (List.mem_of_getElem? hy))).1
      have i0 : 0 ≤ y.i := hg.1
      have i5 : y.i ≤ 5 := hg.2
      have HT : Hid (tab (js.take (k + 1)) = fun i => if i = y.i then some y else tab (js.take k) i) := funext fun i => tab_take HO.out.srt hy i
      have hTa := hT.alloc (boxJ y)
      obtain ⟨q, hq, _⟩ := hT.get y.i i0 i5
      have hfz := hT.frozen y.i.toNat
      have hTs := hTa.set y.i i0 i5 (.pointer (some ⟨wr.heap.size, 0, none⟩)) (some y) ⟨_, rfl, heap_new _ _⟩
      have hlt1 : tb < wr.heap.size := hT.lt
      rw [World.setCell_alloc_past (hn := hlt1)] at hTs
      have HS : Hid (TabAt ((wr.setCell ⟨tb, y.i.toNat, none⟩ (.pointer (some ⟨wr.heap.size, 0, none⟩))).alloc (boxJ y)) tb (tab (js.take (k + 1)))) := by rw [Hid, HT.out]; exact hTs
      clear hE hE0 hy hg HT hTa hTs hT H1 H2 HO
      go_wp2
      go_roundw
      case rel =>
        have g0 : (wr.setCell ⟨tb, y.i.toNat, none⟩ (.pointer (some ⟨wr.heap.size, 0, none⟩))).heap[w.heap.size]? = some (boxB (.slice (some ⟨b, off, none⟩) n1 c1) (.slice a2 n2 c2)) := by rw [Below.heap_setCell _ _ _ _ (by show w.heap.size ≠ tb; omega)]; exact y0
        have g1 : (wr.setCell ⟨tb, y.i.toNat, none⟩ (.pointer (some ⟨wr.heap.size, 0, none⟩))).heap[w.heap.size + 1]? = some (boxE x.k x.j x.v x.t x.c) := by rw [Below.heap_setCell _ _ _ _ (by show w.heap.size + 1 ≠ tb; omega)]; exact y1
        have g2 : (wr.setCell ⟨tb, y.i.toNat, none⟩ (.pointer (some ⟨wr.heap.size, 0, none⟩))).heap[w.heap.size + 2]? = some (boxB nil0 nil0) := by rw [Below.heap_setCell _ _ _ _ (by show w.heap.size + 2 ≠ tb; omega)]; exact y2
        exact ⟨k + 1, by omega, by go_num, heap_old g0 _, heap_old g1 _, heap_old g2 _, HS.out, grew (hB.setCell (p := ⟨tb, y.i.toNat, none⟩) (by show w.heap.size ≤ tb; omega) _) _⟩
      case measure => simp [intOf]; omega
    · have hkn : k = n1 := by omega
      subst hkn
      rw [List.take_of_length_le (by have := L1.out; omega)] at hT
      have z0 : ∀ i, wr.cell? ⟨w.heap.size, i, none⟩ = #[Value.slice a1 k c1, .slice a2 n2 c2][i]? := fun i => Joins.cell_of_block y0 i
      have z1 : ∀ i, wr.cell? ⟨w.heap.size + 1, i, none⟩ = #[Value.int .i64 x.k, .int .i64 x.j, .int .i64 x.v, .int .i64 x.t, .int .i64 x.c][i]? := fun i => Joins.cell_of_block y1 i
      clear H1
      have hz0 : w.heap.size < wr.heap.size := heap_lt y0
      have hz1 : w.heap.size + 1 < wr.heap.size := heap_lt y1
      have hR : Hid (RungSl (wr.alloc (.cells #[] 91)) (.slice a2 n2 c2) rs) := H2.out.later (grew hB _)
      have hown : Hid ((wr.alloc (.cells #[] 91)).ownsRow wr.heap.size 91 3 (.slice (some ⟨wr.heap.size, 0, none⟩) 0 0) 0 []) := ⟨rfl, Or.inr ⟨wr.heap.size, 0, #[], rfl, Nat.le_refl _, heap_new _ _, Nat.le_refl _, Nat.zero_le _, rfl, rfl⟩⟩
      have hl2 : Hid (0 + rs.length ≤ 1000000) := show 0 + rs.length ≤ 1000000 by have := HO.out.room; omega
      go_upto_region 14 with (first | (at_builtin; refine appendR rfl _ _ rfl wr.heap.size _ _ 0 [] rfl hown.out rs rfl hR.out hl2.out (by simp) ?_; intro v' w3 hown' hgrow; obtain ⟨ao, cap, rfl⟩ := owns_slice hown'))
      rw [Nat.zero_add] at hown'
      have hkeep : ∀ (b : Nat) (o : Obj), wr.heap[b]? = some o → w3.heap[b]? = some o := fun b o hb => by
        have hl := heap_lt hb
        rw [hgrow.block b (by simp only [World.size_alloc]; omega) (fun e => by have e' : b = wr.heap.size := Option.some.inj e; omega)]
        exact heap_old hb _
      have hs3 : wr.heap.size + 1 ≤ w3.heap.size := by have := hgrow.size; simpa only [World.size_alloc] using this
      have hB3 : Below w.heap.size w w3 := (grew hB _).grown hgrow (by simp only [World.size_alloc]; omega) (fun q hq => by have e' : wr.heap.size = q := Option.some.inj hq; omega)
      have hT3 : TabAt w3 tb (tab js) := hT.later (by
        obtain ⟨p0, p1, p2, p3, p4, p5, hb, _⟩ := hT
        rw [hkeep _ _ hb, hb]) (fun b y hb => hkeep b _ hb)
      replace y1 := hkeep _ _ y1
      replace y2 := hkeep _ _ y2
      have hro : Hid (w3.ownsRow wr.heap.size 91 3 (.slice ao rs.length cap) rs.length (rs.flatMap Rg.cells)) := by rw [Hid]; simpa using hown'
      have hlt2 : rs.length ≤ 60 := HO.out.room
      have htb : tb < wr.heap.size := hT.lt
      clear hown' hgrow hkeep hB hT hR hown hl2 z0 z1 y0 hz0 hz1
      obtain ⟨m, hm⟩ : ∃ m, rs.length = m := ⟨_, rfl⟩
      rw [hm] at hro hlt2 ⊢
      have HM : Hid (rs.length = m) := hm
      clear hm
      have hX := En.right HX.out
      have j0 : 0 ≤ x.j := hX.2.1.1
      have j5 : x.j ≤ 5 := hX.2.1.2
      obtain ⟨p, hp, hP⟩ := hT3.get x.j j0 j5
      have z1 : ∀ i, w3.cell? ⟨w.heap.size + 1, i, none⟩ = #[Value.int .i64 x.k, .int .i64 x.j, .int .i64 x.v, .int .i64 x.t, .int .i64 x.c][i]? := fun i => Joins.cell_of_block y1 i
      have hz1 : w.heap.size + 1 < w3.heap.size := heap_lt y1
      have hzt : tb < w3.heap.size := hT3.lt
      go_upto_block 2 with fail
      go_cut [] (fun wx => ∃ (f : Int → Option Jb) (rs' : List Rg) (ao' : Option Addr) (cap' : Nat), TabAt wx tb f ∧ wx.heap[w3.heap.size]? = some (boxB nil0 (.slice ao' rs'.length cap')) ∧ wx.heap[w.heap.size + 2]? = some (boxB nil0 nil0) ∧ Hid (wx.ownsRow wr.heap.size 91 3 (.slice ao' rs'.length cap') rs'.length (rs'.flatMap Rg.cells)) ∧ Below w.heap.size w wx ∧ Hid (step js rs x = (untab f, rs') ∧ ∀ i y, f i = some y → y.i = i))
      case rest =>
        clear hp hP hT3 z1 hz1 hzt hro hB3 y1 y2
        obtain ⟨f, rs', ao', cap', ⟨p0, p1, p2, p3, p4, p5, hb, h0, h1, h2, h3, h4, h5⟩, hob, hres, hRg, hB, hF⟩ := hcut
        have zt : ∀ i, wc.cell? ⟨tb, i, none⟩ = #[p0, p1, p2, p3, p4, p5][i]? := fun i => Joins.cell_of_block hb i
        have hwo2 : w.heap.size + 2 < w3.heap.size := by omega
        have hwo : w.heap.size ≤ w3.heap.size := by omega
        generalize hbs : wr.heap.size = bs at *
        clear hbs
        generalize hw3 : w3.heap.size = ob at *
        clear hw3
        clear w3
        go_wp2
        go_loopw [127] (fun i wr' => ∃ (q : Nat) (aj : Option Addr) (cj : Nat), q ≤ 6 ∧ i = .int .i64 q ∧ wr'.heap[ob]? = some (boxB (.slice aj (pre f q).length cj) (.slice ao' rs'.length cap')) ∧ Hid (wr'.ownsRow wc.heap.size 64 3 (.slice aj (pre f q).length cj) (pre f q).length ((pre f q).flatMap Jb.cells)) ∧ Hid (wc.heap.size ≤ wr'.heap.size ∧ ∀ b, b < wc.heap.size → b ≠ ob → wr'.heap[b]? = wc.heap[b]?) ∧ Below w.heap.size w wr') (fun i _ => 6 - (intOf i).toNat)
        case atStart => exact ⟨0, none, 0, by omega, rfl, hob, World.ownsRow_nil _ _ _ _, ⟨Nat.le_refl _, fun _ _ _ => rfl⟩, hB⟩
        case round =>
          clear zt
          obtain ⟨q, aj, cj, hq, rfl, hobr, hO, hst, hBr⟩ := hrel
          by_cases hlt : q < 6
          · obtain ⟨pk, hix, hPk⟩ : ∃ pk, (∀ W, (Instr.index 114 (.agg #[p0, p1, p2, p3, p4, p5]) (.int .i64 (q : Nat))).run Try.prog W = .ok pk W) ∧ PtrIs wc pk (f (q : Nat)) := by
              have hk6 : q = 0 ∨ q = 1 ∨ q = 2 ∨ q = 3 ∨ q = 4 ∨ q = 5 := by omega
              rcases hk6 with rfl | rfl | rfl | rfl | rfl | rfl
              · exact ⟨p0, fun _ => by kernel_rfl, h0⟩
              · exact ⟨p1, fun _ => by kernel_rfl, h1⟩
              · exact ⟨p2, fun _ => by kernel_rfl, h2⟩
              · exact ⟨p3, fun _ => by kernel_rfl, h3⟩
              · exact ⟨p4, fun _ => by kernel_rfl, h4⟩
              · exact ⟨p5, fun _ => by kernel_rfl, h5⟩
            cases hf : f (q : Nat) with
            | none =>
              rw [hf] at hPk
              obtain rfl : pk = .pointer none := hPk
              have HP : Hid (pre f (q + 1) = pre f q) := pre_none hf
              clear hf
              go_wp2
              go_roundw
              case rel => exact ⟨q + 1, aj, cj, by omega, by go_num, by rw [HP.out]; exact hobr, by rw [HP.out]; exact hO, hst, hBr⟩
              case measure => simp [intOf]; omega
            | some y =>
              rw [hf] at hPk
              obtain ⟨b, rfl, hbj⟩ := hPk
              have HP : Hid (pre f (q + 1) = pre f q ++ [y]) := pre_some hf
              have hbl : b < wc.heap.size := heap_lt hbj
              have hbo : b ≠ ob := fun e => by
                rw [e, hob] at hbj
                injection hbj with hbj
                injection hbj with _ hbj
                cases hbj
              have hbj' : wr.heap[b]? = some (boxJ y) := by rw [hst.out.2 b hbl hbo]; exact hbj
              have cJ : ∀ i, wr.cell? ⟨b, i, none⟩ = #[Value.int .i64 y.i, .int .i64 y.e, .int .i64 y.n][i]? := fun i => Joins.cell_of_block hbj' i
              have hpl := pre_len f q
              obtain ⟨i0, hi, hz0, hz1, hz2⟩ := info_parts infoJ
              obtain ⟨mj, hmj⟩ : ∃ mj, (pre f q).length = mj := ⟨_, rfl⟩
              have HMJ : Hid ((pre f q).length = mj) := hmj
              rw [hmj] at hobr hO hpl
              have cO : ∀ i, wr.cell? ⟨ob, i, none⟩ = #[Value.slice aj mj cj, .slice ao' rs'.length cap'][i]? := fun i => Joins.cell_of_block hobr i
              have fO : ∀ i, wr.frozen? ⟨ob, i, none⟩ = false := fun i => Joins.unfrozen_of_block hobr i
              clear hf hmj
              have hol : ob < wc.heap.size := heap_lt hob
              have hwl : wc.heap.size ≤ wr.heap.size := hst.out.1
              have hoo : ob < wr.heap.size := Nat.lt_of_lt_of_le hol hwl
              have hbb : b < wr.heap.size := Nat.lt_of_lt_of_le hbl hwl
              have hO' : Hid ((wr.alloc (boxJ y)).ownsRow wc.heap.size 64 3 (.slice aj mj cj) mj ((pre f q).flatMap Jb.cells)) := hO.out.alloc _
              have hN : Hid (∀ (j : Nat) (u : Value), [Value.int .i64 y.i, .int .i64 y.e, .int .i64 y.n][j]? = some u → (wr.alloc (boxJ y)).cell? ((⟨wr.heap.size, 0, none⟩ : Addr).add j) = some u) := fun j u hu => World.news_of_block (heap_new wr (boxJ y)) j u hu
              have hS : Hid (wc.heap.size ≤ (wr.alloc (boxJ y)).heap.size) := by rw [Hid, World.size_alloc]; omega
              go_wp2_with fail
              go_region_law (refine step_append_lies _ rfl (.tmp 133) (.tmp 137) 42 rfl wc.heap.size 64 i0 (valJ 0 0 0) 3 24 Try.underlying42 hi hz0 hz1 hz2 rfl (by decide) (.slice aj mj cj) mj _ (by simp [Act.eval]) hO'.out ⟨wr.heap.size, 0, none⟩ 1 1 [Value.int .i64 y.i, .int .i64 y.e, .int .i64 y.n] (by simp [Act.eval]) rfl hN.out (one3 _ _ _) (by omega) (by unfold maxLen; omega) (by omega) hS.out _ rfl ?_; intro g cap5 w5 hown5 hgrow5 hat hlt5; have hk5 : Hid (∀ (z : Nat) (o : Obj), z < wc.heap.size → wr.heap[z]? = some o → w5.heap[z]? = some o) := (fun z o hz hzo => by rw [hgrow5.block z (show z < (wr.alloc (boxJ y)).heap.size by rw [World.size_alloc]; omega) (fun e => by have := owns_ge hO.out e; omega)]; exact heap_old hzo _); have hob5 := hk5.out ob _ hol hobr; have cO5 : ∀ i, w5.cell? ⟨ob, i, none⟩ = #[Value.slice aj mj cj, .slice ao' rs'.length cap'][i]? := (fun i => Joins.cell_of_block hob5 i); have fO5 : ∀ i, w5.frozen? ⟨ob, i, none⟩ = false := (fun i => Joins.unfrozen_of_block hob5 i))
              all_goals
                have hws : w.heap.size ≤ (wr.alloc (boxJ y)).heap.size := by rw [World.size_alloc]; have := hBr.size; omega
                have hrow : ∀ z, Value.ownBlock (.slice aj mj cj) = some z → w.heap.size ≤ z := fun z hz => by have := owns_ge hO.out hz.symm; have := hB.size; omega
                have hB5 : Below w.heap.size w w5 := by
                  first
                    | exact (grew hBr (boxJ y)).drew.grown hgrow5 hws hrow
                    | exact (grew hBr.drew (boxJ y)).grown hgrow5 hws hrow
                have hs5 : wc.heap.size ≤ w5.heap.size := by have h1 := hgrow5.size; have h2 : wc.heap.size ≤ (wr.alloc (boxJ y)).heap.size := hS.out; exact Nat.le_trans h2 h1
                have hlen : (pre f (q + 1)).length = mj + 1 := by rw [HP.out, List.length_append, HMJ.out]; rfl
                have hO6 : Hid ((w5.setCell ⟨ob, 0, none⟩ (.slice (some ⟨g, 0, none⟩) (mj + 1) cap5)).ownsRow wc.heap.size 64 3 (.slice (some ⟨g, 0, none⟩) (mj + 1) cap5) (mj + 1) ((pre f (q + 1)).flatMap Jb.cells)) := by
                  rw [Hid, HP.out, List.flatMap_append]
                  have h6 := owns_keep (w' := w5.setCell ⟨ob, 0, none⟩ (.slice (some ⟨g, 0, none⟩) (mj + 1) cap5)) hown5 (fun z o hz hzo => by rw [Below.heap_setCell _ _ _ _ (by show z ≠ ob; omega)]; exact hzo)
                  simpa [Jb.cells] using h6
                have hst6 : Hid (wc.heap.size ≤ (w5.setCell ⟨ob, 0, none⟩ (.slice (some ⟨g, 0, none⟩) (mj + 1) cap5)).heap.size ∧ ∀ z, z < wc.heap.size → z ≠ ob → (w5.setCell ⟨ob, 0, none⟩ (.slice (some ⟨g, 0, none⟩) (mj + 1) cap5)).heap[z]? = wc.heap[z]?) := by
                  refine ⟨by rw [World.size_setCell]; exact hs5, fun z hz hzo => ?_⟩
                  rw [Below.heap_setCell _ _ _ _ (by show z ≠ ob; exact hzo), ← hst.out.2 z hz hzo]
                  have hzl : z < wr.heap.size := by omega
                  rw [Array.getElem?_eq_getElem hzl]
                  exact hk5.out z _ hz (Array.getElem?_eq_getElem hzl)
                have hob6 : Hid ((w5.setCell ⟨ob, 0, none⟩ (.slice (some ⟨g, 0, none⟩) (mj + 1) cap5)).heap[ob]? = some (boxB (.slice (some ⟨g, 0, none⟩) (mj + 1) cap5) (.slice ao' rs'.length cap'))) := by rw [Hid, Joins.block_setCell hob5]; rfl
                have hB6 : Hid (Below w.heap.size w (w5.setCell ⟨ob, 0, none⟩ (.slice (some ⟨g, 0, none⟩) (mj + 1) cap5))) := hB5.setCell (p := ⟨ob, 0, none⟩) hwo _
                clear hown5 hgrow5 hat hlt5 hk5 hob5 cO5 fO5 hB5 hs5 hws hrow cO fO cJ hN hO' hS hi hz0 hz1 hz2 hst hO hobr
                go_wp2
                go_roundw
                case rel => exact ⟨q + 1, some ⟨g, 0, none⟩, cap5, by omega, by go_num, by rw [hlen]; exact hob6.out, by rw [hlen]; exact hO6.out, hst6.out, hB6.out⟩
                case measure => simp [intOf]; omega
          · obtain rfl : q = 6 := by omega
            have cO : ∀ i, wr.cell? ⟨ob, i, none⟩ = #[Value.slice aj (pre f 6).length cj, .slice ao' rs'.length cap'][i]? := fun i => Joins.cell_of_block hobr i
            have hrl : w.heap.size + 2 < wc.heap.size := heap_lt hres
            have hro : w.heap.size + 2 ≠ ob := by omega
            have hres' : wr.heap[w.heap.size + 2]? = some (boxB nil0 nil0) := by rw [hst.out.2 _ hrl hro]; exact hres
            have cR : ∀ i, wr.cell? ⟨w.heap.size + 1 + 1, i, none⟩ = #[nil0, nil0][i]? := fun i => Joins.cell_of_block hres' i
            have fR : ∀ i, wr.frozen? ⟨w.heap.size + 1 + 1, i, none⟩ = false := fun i => Joins.unfrozen_of_block hres' i
            go_wp2
            have e0 : (wr.setCell ⟨w.heap.size + 1 + 1, 0, none⟩ (.slice aj (pre f 6).length cj)).heap[w.heap.size + 1 + 1]? = some (boxB (.slice aj (pre f 6).length cj) nil0) := by rw [Joins.block_setCell hres']; rfl
            have e1 : ((wr.setCell ⟨w.heap.size + 1 + 1, 0, none⟩ (.slice aj (pre f 6).length cj)).setCell ⟨w.heap.size + 1 + 1, 1, none⟩ (.slice ao' rs'.length cap')).heap[w.heap.size + 1 + 1]? = some (boxB (.slice aj (pre f 6).length cj) (.slice ao' rs'.length cap')) := by rw [Joins.block_setCell e0]; rfl
            have hkeep : ∀ (z : Nat), z ≠ w.heap.size + 2 → ((wr.setCell ⟨w.heap.size + 1 + 1, 0, none⟩ (.slice aj (pre f 6).length cj)).setCell ⟨w.heap.size + 1 + 1, 1, none⟩ (.slice ao' rs'.length cap')).heap[z]? = wr.heap[z]? := fun z hz => by
              rw [Below.heap_setCell _ _ _ _ (by show z ≠ w.heap.size + 1 + 1; omega), Below.heap_setCell _ _ _ _ (by show z ≠ w.heap.size + 1 + 1; omega)]
            have hoj := owns_keep (w' := ((wr.setCell ⟨w.heap.size + 1 + 1, 0, none⟩ (.slice aj (pre f 6).length cj)).setCell ⟨w.heap.size + 1 + 1, 1, none⟩ (.slice ao' rs'.length cap'))) hO.out (fun z cur hz hcur => by rw [hkeep z (by omega)]; exact hcur)
            have hor := owns_keep (w' := ((wr.setCell ⟨w.heap.size + 1 + 1, 0, none⟩ (.slice aj (pre f 6).length cj)).setCell ⟨w.heap.size + 1 + 1, 1, none⟩ (.slice ao' rs'.length cap'))) hRg.out (fun z cur hz hcur => by
                rw [hkeep z (by omega), hst.out.2 z (heap_lt hcur) (fun e => by
                  rw [e, hob] at hcur
                  injection hcur with hcur
                  injection hcur with _ hcur
                  cases hcur)]
                exact hcur)
            refine ret_book (v1 := .slice aj (pre f 6).length cj) (v2 := .slice ao' rs'.length cap') Try.results65 rfl rfl rfl e1 ⟨_, _, rfl, ?_, ?_, (hBr.setCell (p := ⟨w.heap.size + 1 + 1, 0, none⟩) (by show w.heap.size ≤ w.heap.size + 1 + 1; omega) _).setCell (p := ⟨w.heap.size + 1 + 1, 1, none⟩) (by show w.heap.size ≤ w.heap.size + 1 + 1; omega) _, owns_roomy hRg.out, typed_owns hoj, typed_owns hor⟩
            · rw [hF.out.1]
              exact slOf_of_owns Jb.three hoj
            · rw [hF.out.1]
              exact slOf_of_owns Rg.three hor
      case first =>
        have hfz := hT3.frozen x.j.toNat
        have hres4 : Hid ((w3.alloc (boxB nil0 (.slice ao m cap))).heap[w.heap.size + 2]? = some (boxB nil0 nil0)) := heap_old y2 _
        have hob4 : Hid ((w3.alloc (boxB nil0 (.slice ao m cap))).heap[w3.heap.size]? = some (boxB nil0 (.slice ao rs.length cap))) := by rw [Hid, HM.out]; exact heap_new _ _
        have hT4 : Hid (TabAt (w3.alloc (boxB nil0 (.slice ao m cap))) tb (tab js)) := hT3.alloc _
        have hro4 : Hid ((w3.alloc (boxB nil0 (.slice ao m cap))).ownsRow wr.heap.size 91 3 (.slice ao rs.length cap) rs.length (rs.flatMap Rg.cells)) := by rw [Hid, HM.out]; rw [← HM.out]; exact ownsRow_later (by rw [HM.out]; exact hro.out) (grew (Below.refl _ _) _)
        have hB4 : Hid (Below w.heap.size w (w3.alloc (boxB nil0 (.slice ao m cap)))) := grew hB3 _
        have hwt : w.heap.size + 2 < tb := hts
        have hsame : Hid (step js rs x = (js, rs) → step js rs x = (untab (tab js), rs) ∧ ∀ i y, tab js i = some y → y.i = i) := fun h => ⟨by rw [h, untab_same HO.out], fun _ _ h => (tab_id h).1⟩
        clear hT3 y2 hro hB3 hlt2 H2
        have hk : x.k = 0 ∨ x.k = 1 ∨ x.k = 2 ∨ x.k = 3 := by omega
        rcases hk with hk | hk | hk | hk
        · have b1 : (x.k == 1) = false := by rw [hk]; rfl
          have b2 : (x.k == 2) = false := by rw [hk]; rfl
          have b3 : (x.k == 3) = false := by rw [hk]; rfl
          have HF : Hid (step js rs x = (js, rs)) := by rw [Hid, step, if_neg (by omega), if_neg (by omega), if_neg (by omega)]
          clear hk hX hP
          go_wp2
          go_quiet (fail)
          go_wp2
          go_meet
          case rel => exact ⟨tab js, rs, ao, cap, hT4.out, hob4.out, hres4.out, hro4.out, below_drewN hB4.out _, hsame.out HF.out⟩
        · have b1 : (x.k == 1) = true := by rw [hk]; rfl
          have b2 : (x.k == 2) = false := by rw [hk]; rfl
          have b3 : (x.k == 3) = false := by rw [hk]; rfl
          cases ht : tab js x.j with
          | none =>
            rw [ht] at hP
            obtain rfl : p = .pointer none := hP
            have HF : Hid (step js rs x = (untab (upd (tab js) x.j (some ⟨x.j, x.v, x.t⟩)), rs) ∧ ∀ i y, upd (tab js) x.j (some ⟨x.j, x.v, x.t⟩) i = some y → y.i = i) := by
              have ho : ∀ y : Jb, some (⟨x.j, x.v, x.t⟩ : Jb) = some y → y.i = x.j := fun y e => by cases e; rfl
              refine ⟨?_, upd_id ho⟩
              rw [untab_alt HO.out j0 j5 ho, step, if_pos hk, ht]
            have hTs := (hT4.out.alloc (boxJ ⟨x.j, x.v, x.t⟩)).set x.j j0 j5 (.pointer (some ⟨w3.heap.size + 1, 0, none⟩)) (some ⟨x.j, x.v, x.t⟩) ⟨_, rfl, by have := heap_new (w3.alloc (boxB nil0 (.slice ao m cap))) (boxJ ⟨x.j, x.v, x.t⟩); rwa [World.size_alloc] at this⟩
            rw [World.setCell_alloc_past (hn := by rw [World.size_alloc]; omega), World.setCell_alloc_past (hn := hzt)] at hTs
            have HT : Hid (TabAt (((w3.setCell ⟨tb, x.j.toNat, none⟩ (.pointer (some ⟨w3.heap.size + 1, 0, none⟩))).alloc (boxB nil0 (.slice ao m cap))).alloc (boxJ ⟨x.j, x.v, x.t⟩)) tb (upd (tab js) x.j (some ⟨x.j, x.v, x.t⟩))) := hTs
            clear hTs ht hk hX
            go_wp2
            go_meet
            case rel =>
              have hw : (((w3.setCell ⟨tb, x.j.toNat, none⟩ (.pointer (some ⟨w3.heap.size + 1, 0, none⟩))).alloc (boxB nil0 (.slice ao m cap))).alloc (boxJ ⟨x.j, x.v, x.t⟩)) = ((w3.alloc (boxB nil0 (.slice ao m cap))).setCell ⟨tb, x.j.toNat, none⟩ (.pointer (some ⟨w3.heap.size + 1, 0, none⟩))).alloc (boxJ ⟨x.j, x.v, x.t⟩) := by rw [World.setCell_alloc_past (hn := hzt)]
              refine ⟨upd (tab js) x.j (some ⟨x.j, x.v, x.t⟩), rs, ao, cap, HT.out, ?_, ?_, ?_, ?_, HF.out⟩
              · rw [hw]; refine heap_old ?_ _; rw [Below.heap_setCell _ _ _ _ (by show w3.heap.size ≠ tb; omega)]; exact hob4.out
              · rw [hw]; refine heap_old ?_ _; rw [Below.heap_setCell _ _ _ _ (by show w.heap.size + 2 ≠ tb; omega)]; exact hres4.out
              · rw [hw]; exact owns_keep hro4.out (fun z cur hz hcur => heap_old (by rw [Below.heap_setCell _ _ _ _ (by show z ≠ tb; omega)]; exact hcur) _)
              · rw [hw]; exact grew (hB4.out.setCell (p := ⟨tb, x.j.toNat, none⟩) (by show w.heap.size ≤ tb; omega) _) _
          | some y =>
            rw [ht] at hP
            obtain ⟨bj, rfl, hbj⟩ := hP
            have HF : Hid (step js rs x = (js, rs)) := by rw [Hid, step, if_pos hk, ht]
            clear hk hX ht
            go_wp2
            go_quiet (fail)
            go_wp2
            go_meet
            case rel => exact ⟨tab js, rs, ao, cap, hT4.out, hob4.out, hres4.out, hro4.out, below_drewN hB4.out _, hsame.out HF.out⟩
        · have b1 : (x.k == 1) = false := by rw [hk]; rfl
          have b2 : (x.k == 2) = true := by rw [hk]; rfl
          have HF : Hid (step js rs x = (untab (upd (tab js) x.j none), rs) ∧ ∀ i y, upd (tab js) x.j none i = some y → y.i = i) := by
            have ho : ∀ y : Jb, (none : Option Jb) = some y → y.i = x.j := fun y e => by cases e
            refine ⟨?_, upd_id ho⟩
            rw [untab_alt HO.out j0 j5 ho, step, if_neg (by omega), if_pos hk]
          have hTs := hT4.out.set x.j j0 j5 (.pointer none) none rfl
          rw [World.setCell_alloc_past (hn := hzt)] at hTs
          have HT : Hid (TabAt ((w3.setCell ⟨tb, x.j.toNat, none⟩ (.pointer none)).alloc (boxB nil0 (.slice ao m cap))) tb (upd (tab js) x.j none)) := hTs
          clear hTs hk hX hP
          go_wp2
          go_meet
          case rel =>
            have hw : (w3.setCell ⟨tb, x.j.toNat, none⟩ (.pointer none)).alloc (boxB nil0 (.slice ao m cap)) = (w3.alloc (boxB nil0 (.slice ao m cap))).setCell ⟨tb, x.j.toNat, none⟩ (.pointer none) := by rw [World.setCell_alloc_past (hn := hzt)]
            refine ⟨upd (tab js) x.j none, rs, ao, cap, HT.out, ?_, ?_, ?_, ?_, HF.out⟩
            · rw [hw, Below.heap_setCell _ _ _ _ (by show w3.heap.size ≠ tb; omega)]; exact hob4.out
            · rw [hw, Below.heap_setCell _ _ _ _ (by show w.heap.size + 2 ≠ tb; omega)]; exact hres4.out
            · rw [hw]; exact owns_keep hro4.out (fun z cur hz hcur => by rw [Below.heap_setCell _ _ _ _ (by show z ≠ tb; omega)]; exact hcur)
            · rw [hw]; exact hB4.out.setCell (p := ⟨tb, x.j.toNat, none⟩) (by show w.heap.size ≤ tb; omega) _
        · have b1 : (x.k == 1) = false := by rw [hk]; rfl
          have b2 : (x.k == 2) = false := by rw [hk]; rfl
          have b3 : (x.k == 3) = true := by rw [hk]; rfl
          cases ht : tab js x.j with
          | none =>
            rw [ht] at hP
            obtain rfl : p = .pointer none := hP
            have HF : Hid (step js rs x = (js, rs)) := by rw [Hid, step, if_neg (by omega), if_neg (by omega), if_pos hk, ht]
            clear hk hX ht
            go_wp2
            go_quiet (fail)
            go_wp2
            go_meet
            case rel => exact ⟨tab js, rs, ao, cap, hT4.out, hob4.out, hres4.out, hro4.out, below_drewN hB4.out _, hsame.out HF.out⟩
          | some y =>
            rw [ht] at hP
            obtain ⟨bj, rfl, hbj⟩ := hP
            have cJ : ∀ i, w3.cell? ⟨bj, i, none⟩ = #[Value.int .i64 y.i, .int .i64 y.e, .int .i64 y.n][i]? := fun i => Joins.cell_of_block hbj i
            have hbl : bj < w3.heap.size := heap_lt hbj
            by_cases hn : y.n = x.t
            · have b4 : (y.n == x.t) = true := by rw [beq_iff_eq]; exact hn
              by_cases hm : m < 60
              · have hmi : (m : Int) < 60 := by omega
                have hmd : decide ((m : Int) < 60) = true := by rw [decide_eq_true_iff]; exact hmi
                have HF : Hid (step js rs x = (untab (upd (tab js) x.j (some ⟨x.j, y.e, x.t + y.e⟩)), rs ++ [⟨x.j, x.t, x.c⟩]) ∧ ∀ i z, upd (tab js) x.j (some ⟨x.j, y.e, x.t + y.e⟩) i = some z → z.i = i) := by
                  have ho : ∀ z : Jb, some (⟨x.j, y.e, x.t + y.e⟩ : Jb) = some z → z.i = x.j := fun z e => by cases e; rfl
                  refine ⟨?_, upd_id ho⟩
                  rw [untab_alt HO.out j0 j5 ho, step, if_neg (by omega), if_neg (by omega), if_pos hk, ht]
                  exact if_pos ⟨hn, by rw [HM.out]; exact hm⟩
                have hye := (Jb.good (HO.out.jobs y (tab_id ht).2)).2.1
                have ye1 : 1 ≤ y.e := hye.1
                have ye2 : y.e ≤ 100 := hye.2
                have xt0 : 0 ≤ x.t := hX.2.2.2.1.1
                have xt1 : x.t ≤ 100000 := hX.2.2.2.1.2
                obtain ⟨i0, hi, hz0, hz2, hz3⟩ := info_parts infoR
                have hO' : Hid (((w3.alloc (boxB nil0 (.slice ao m cap))).alloc (boxR ⟨x.j, x.t, x.c⟩)).ownsRow wr.heap.size 91 3 (.slice ao m cap) m (rs.flatMap Rg.cells)) := by
                  have := hro4.out; rw [HM.out] at this; exact this.alloc _
                have hN : Hid (∀ (j : Nat) (u : Value), [Value.int .i64 x.j, .int .i64 x.t, .int .i64 x.c][j]? = some u → ((w3.alloc (boxB nil0 (.slice ao m cap))).alloc (boxR ⟨x.j, x.t, x.c⟩)).cell? ((⟨w3.heap.size + 1, 0, none⟩ : Addr).add j) = some u) := fun j u hu => by
                  have hb := heap_new (w3.alloc (boxB nil0 (.slice ao m cap))) (boxR ⟨x.j, x.t, x.c⟩)
                  rw [World.size_alloc] at hb
                  exact World.news_of_block hb j u hu
                have hS : Hid (wr.heap.size ≤ ((w3.alloc (boxB nil0 (.slice ao m cap))).alloc (boxR ⟨x.j, x.t, x.c⟩)).heap.size) := by rw [Hid, World.size_alloc, World.size_alloc]; omega
                clear hk hX ht hye hn hp
                go_wp2_with fail
                go_quiet (fail)
                go_upto_region 21 with (first | (at_builtin; refine wpList_append_lies _ rfl _ _ 43 rfl wr.heap.size 91 i0 (valR 0 0 0) 3 24 Try.underlying43 hi hz0 hz2 hz3 rfl (by decide) (.slice ao m cap) m (rs.flatMap Rg.cells) rfl hO'.out ⟨w3.heap.size + 1, 0, none⟩ 1 1 [Value.int .i64 x.j, .int .i64 x.t, .int .i64 x.c] rfl rfl hN.out (one3 _ _ _) (by omega) (by unfold maxLen; omega) (by omega) hS.out _ rfl ?_; intro g cap5 w5 hown5 hgrow5 hat hlt5; have hk5 : Hid (∀ (z : Nat) (o : Obj), (∀ cur, o ≠ .cells cur 91) → ((w3.alloc (boxB nil0 (.slice ao m cap))).alloc (boxR ⟨x.j, x.t, x.c⟩)).heap[z]? = some o → w5.heap[z]? = some o) := (fun z o hne hzo => by rw [hgrow5.block z (heap_lt hzo) (fun e => by (obtain ⟨cur, hc⟩ := owns_type hO'.out e; rw [hzo] at hc; exact hne cur (Option.some.inj hc)))]; exact hzo); have hob5 := hk5.out w3.heap.size (boxB nil0 (.slice ao m cap)) (fun cur e => by (injection e with _ e; cases e)) (heap_old (heap_new _ _) _); have cO5 : ∀ i, w5.cell? ⟨w3.heap.size, i, none⟩ = #[nil0, .slice ao m cap][i]? := (fun i => Joins.cell_of_block hob5 i); have fO5 : ∀ i, w5.frozen? ⟨w3.heap.size, i, none⟩ = false := (fun i => Joins.unfrozen_of_block hob5 i)))
                obtain ⟨w6, hw6⟩ : ∃ w6, w5.setCell ⟨w3.heap.size, 1, none⟩ (.slice (some ⟨g, 0, none⟩) (m + 1) cap5) = w6 := ⟨_, rfl⟩
                rw [hw6]
                have hk6 : ∀ (z : Nat) (o : Obj), z ≠ w3.heap.size → (∀ cur, o ≠ .cells cur 91) → (w3.alloc (boxB nil0 (.slice ao m cap))).heap[z]? = some o → w6.heap[z]? = some o := fun z o hz hne hzo => by
                  rw [← hw6, Below.heap_setCell _ _ _ _ (by show z ≠ w3.heap.size; exact hz)]
                  exact hk5.out z o hne (heap_old hzo _)
                have y6 : w6.heap[w.heap.size + 1]? = some (boxE x.k x.j x.v x.t x.c) := hk6 _ _ (by omega) (fun cur e => by injection e with _ e; cases e) (heap_old y1 _)
                have hbj6 : w6.heap[bj]? = some (boxJ y) := hk6 _ _ (by omega) (fun cur e => by injection e with _ e; cases e) (heap_old hbj _)
                have hres6 : w6.heap[w.heap.size + 2]? = some (boxB nil0 nil0) := hk6 _ _ (by omega) (fun cur e => by injection e with _ e; cases e) hres4.out
                have hob6 : w6.heap[w3.heap.size]? = some (boxB nil0 (.slice (some ⟨g, 0, none⟩) (m + 1) cap5)) := by rw [← hw6, Joins.block_setCell hob5]; rfl
                have hT6 : TabAt w6 tb (tab js) := by
                  refine hT4.out.later ?_ (fun z y' hz => hk6 z _ (fun e => by
                    have h1 : (w3.alloc (boxB nil0 (.slice ao m cap))).heap[w3.heap.size]? = some (boxB nil0 (.slice ao m cap)) := heap_new _ _
                    rw [e, h1] at hz
                    injection hz with hz
                    injection hz with _ hz
                    cases hz) (fun cur e => by injection e with _ e; cases e) hz)
                  obtain ⟨q0, q1, q2, q3, q4, q5, hqb, _⟩ := hT4.out
                  rw [hk6 _ _ (by omega) (fun cur e => by injection e with _ e; cases e) hqb, hqb]
                have hown6 : w6.ownsRow wr.heap.size 91 3 (.slice (some ⟨g, 0, none⟩) (m + 1) cap5) (m + 1) (rs.flatMap Rg.cells ++ [Value.int .i64 x.j, .int .i64 x.t, .int .i64 x.c]) := by
                  rw [← hw6]
                  refine owns_keep hown5 (fun z cur hz hcur => ?_)
                  rw [Below.heap_setCell _ _ _ _ (by
                    show z ≠ w3.heap.size
                    intro e
                    rw [e, hob5] at hcur
                    injection hcur with hcur
                    injection hcur with _ hcur
                    cases hcur)]
                  exact hcur
                have hB5 : Below w.heap.size w w5 := by
                  have h0 : Below w.heap.size w ((w3.alloc (boxB nil0 (.slice ao m cap))).alloc (boxR ⟨x.j, x.t, x.c⟩)) := grew hB4.out _
                  have h1 : w.heap.size ≤ ((w3.alloc (boxB nil0 (.slice ao m cap))).alloc (boxR ⟨x.j, x.t, x.c⟩)).heap.size := h0.size
                  refine Below.grown ?_ hgrow5 h1 (fun z hz => by have := owns_ge hO'.out hz.symm; omega)
                  exact ⟨h0.os, h0.tape, h0.output, h0.size, h0.block⟩
                have hB6 : Below w.heap.size w w6 := by rw [← hw6]; exact hB5.setCell (p := ⟨w3.heap.size, 1, none⟩) (by show w.heap.size ≤ w3.heap.size; omega) _
                have hs6 : w3.heap.size < w6.heap.size := heap_lt hob6
                clear hw6 hk6 hk5 hob5 cO5 fO5 hB5 hown5 hgrow5 hat hlt5 hT4 hres4 hob4 hro4 hB4 hO' hN hS hi hz0 hz2 hz3 z1 cJ hfz y1 hbj hsame
                have z6 : ∀ i, w6.cell? ⟨w.heap.size + 1, i, none⟩ = #[Value.int .i64 x.k, .int .i64 x.j, .int .i64 x.v, .int .i64 x.t, .int .i64 x.c][i]? := fun i => Joins.cell_of_block y6 i
                have cJ : ∀ i, w6.cell? ⟨bj, i, none⟩ = #[Value.int .i64 y.i, .int .i64 y.e, .int .i64 y.n][i]? := fun i => Joins.cell_of_block hbj6 i
                have hfz := hT6.frozen x.j.toNat
                obtain ⟨p7, hp7, _⟩ := hT6.get x.j j0 j5
                have hzt6 : tb < w6.heap.size := hT6.lt
                have hz16 : w.heap.size + 1 < w6.heap.size := heap_lt y6
                have hbl6 : bj < w6.heap.size := heap_lt hbj6
                have hTs := (hT6.alloc (boxJ ⟨x.j, y.e, x.t + y.e⟩)).set x.j j0 j5 (.pointer (some ⟨w6.heap.size, 0, none⟩)) (some ⟨x.j, y.e, x.t + y.e⟩) ⟨_, rfl, heap_new _ _⟩
                rw [World.setCell_alloc_past (hn := hzt6)] at hTs
                have HT : Hid (TabAt ((w6.setCell ⟨tb, x.j.toNat, none⟩ (.pointer (some ⟨w6.heap.size, 0, none⟩))).alloc (boxJ ⟨x.j, y.e, x.t + y.e⟩)) tb (upd (tab js) x.j (some ⟨x.j, y.e, x.t + y.e⟩))) := hTs
                have hlen : (rs ++ [(⟨x.j, x.t, x.c⟩ : Rg)]).length = m + 1 := by rw [List.length_append, HM.out]; rfl
                have hob7 : Hid (((w6.setCell ⟨tb, x.j.toNat, none⟩ (.pointer (some ⟨w6.heap.size, 0, none⟩))).alloc (boxJ ⟨x.j, y.e, x.t + y.e⟩)).heap[w3.heap.size]? = some (boxB nil0 (.slice (some ⟨g, 0, none⟩) (rs ++ [(⟨x.j, x.t, x.c⟩ : Rg)]).length cap5))) := by
                  rw [hlen]; exact heap_old (by rw [Below.heap_setCell _ _ _ _ (by show w3.heap.size ≠ tb; omega)]; exact hob6) _
                have hres7 : Hid (((w6.setCell ⟨tb, x.j.toNat, none⟩ (.pointer (some ⟨w6.heap.size, 0, none⟩))).alloc (boxJ ⟨x.j, y.e, x.t + y.e⟩)).heap[w.heap.size + 2]? = some (boxB nil0 nil0)) :=
                  heap_old (by rw [Below.heap_setCell _ _ _ _ (by show w.heap.size + 2 ≠ tb; omega)]; exact hres6) _
                have hown7 : Hid (((w6.setCell ⟨tb, x.j.toNat, none⟩ (.pointer (some ⟨w6.heap.size, 0, none⟩))).alloc (boxJ ⟨x.j, y.e, x.t + y.e⟩)).ownsRow wr.heap.size 91 3 (.slice (some ⟨g, 0, none⟩) (rs ++ [(⟨x.j, x.t, x.c⟩ : Rg)]).length cap5) (rs ++ [(⟨x.j, x.t, x.c⟩ : Rg)]).length ((rs ++ [(⟨x.j, x.t, x.c⟩ : Rg)]).flatMap Rg.cells)) := by
                  rw [hlen, List.flatMap_append]
                  have h7 := owns_keep (w' := (w6.setCell ⟨tb, x.j.toNat, none⟩ (.pointer (some ⟨w6.heap.size, 0, none⟩))).alloc (boxJ ⟨x.j, y.e, x.t + y.e⟩)) hown6 (fun z cur hz hcur => heap_old (by rw [Below.heap_setCell _ _ _ _ (by show z ≠ tb; omega)]; exact hcur) _)
                  simpa [Hid, Rg.cells] using h7
                have hB7 : Hid (Below w.heap.size w ((w6.setCell ⟨tb, x.j.toNat, none⟩ (.pointer (some ⟨w6.heap.size, 0, none⟩))).alloc (boxJ ⟨x.j, y.e, x.t + y.e⟩))) := grew (hB6.setCell (p := ⟨tb, x.j.toNat, none⟩) (by show w.heap.size ≤ tb; omega) _) _
                clear hTs hT6 hob6 hres6 hown6 hB6 y6 hbj6 hlen
                go_region
                all_goals
                  go_wp2
                  go_meet
                  case rel => exact ⟨upd (tab js) x.j (some ⟨x.j, y.e, x.t + y.e⟩), rs ++ [(⟨x.j, x.t, x.c⟩ : Rg)], some ⟨g, 0, none⟩, cap5, HT.out, hob7.out, hres7.out, hown7.out, ⟨hB7.out.os, hB7.out.tape, hB7.out.output, hB7.out.size, hB7.out.block⟩, HF.out⟩
              · have HF : Hid (step js rs x = (js, rs)) := by
                  rw [Hid, step, if_neg (by omega), if_neg (by omega), if_pos hk, ht]
                  exact if_neg (by rw [HM.out]; omega)
                have hmi : ¬ (m : Int) < 60 := by omega
                have hmd : decide ((m : Int) < 60) = false := by rw [decide_eq_false_iff_not]; exact hmi
                clear hk hX ht hn
                go_wp2
                go_quiet (fail)
                go_wp2
                go_meet
                case rel => exact ⟨tab js, rs, ao, cap, hT4.out, hob4.out, hres4.out, hro4.out, below_drewN hB4.out _, hsame.out HF.out⟩
            · have b4 : (y.n == x.t) = false := by rw [beq_eq_false_iff_ne]; exact hn
              have HF : Hid (step js rs x = (js, rs)) := by
                rw [Hid, step, if_neg (by omega), if_neg (by omega), if_pos hk, ht]
                exact if_neg (by omega)
              clear hk hX ht hn
              go_wp2
              go_quiet (fail)
              go_wp2
              go_meet
              case rel => exact ⟨tab js, rs, ao, cap, hT4.out, hob4.out, hres4.out, hro4.out, below_drewN hB4.out _, hsame.out HF.out⟩

end Go.Proofs.Ytbokdcdnandgbae
namespace Go.Proofs.Ytbokdcdnandgbae
open Go.RowKit

set_option maxHeartbeats 2000000 in
theorem ref_app_book (a1 a2 : Option Addr) (n1 n2 c1 c2 : Nat) (js : List Jb) (rs : List Rg) (x : En) (w : World) (h1 : JobSl w (.slice a1 n1 c1) js) (h2 : RungSl w (.slice a2 n2 c2) rs) (hbad : ckBook js rs ≠ 0) :
    Calls Try.prog 65 #[.agg #[.slice a1 n1 c1, .slice a2 n2 c2], x.val] w fun e w' => e = .returned (.tuple #[.agg #[nil0, nil0], .int .i64 (ckBook js rs)]) ∧ Below w.heap.size w w' := by
  have H1 : Hid (JobSl w (.slice a1 n1 c1) js) := h1
  have H2 : Hid (RungSl w (.slice a2 n2 c2) rs) := h2
  have hck := fun W g1 g2 => ref_ckBook (.slice a1 n1 c1) (.slice a2 n2 c2) js rs W g1 g2
  have hb : (ckBook js rs != 0) = true := by rw [bne_iff_ne]; exact hbad
  clear h1 h2 hbad
  generalize ckBook js rs = n at *
  go_enter Try.func65, Try.ntmps65
  go_wp2_with fail
  have hB0 := grew (grew (grew (Below.refl w.heap.size w) (boxB (.slice a1 n1 c1) (.slice a2 n2 c2))) (boxE x.k x.j x.v x.t x.c)) (boxB nil0 nil0)
  refine (hck _ (by exact H1.out.later hB0) (by exact H2.out.later hB0)).mono ?_
  rintro e w1 ⟨rfl, hb1⟩
  have y2 : w1.heap[w.heap.size + 1 + 1]? = some (boxB nil0 nil0) := by
    rw [hb1.block _ (by simp only [World.size_alloc]; omega)]
    have := heap_new ((w.alloc (boxB (.slice a1 n1 c1) (.slice a2 n2 c2))).alloc (boxE x.k x.j x.v x.t x.c)) (boxB nil0 nil0)
    rw [World.size_alloc, World.size_alloc] at this
    exact this
  have hB1 : Below w.heap.size w w1 := hB0.trans (hb1.mono (by simp only [World.size_alloc]; omega))
  clear hb1 hB0 hck H1 H2
  have z2 : ∀ i, w1.cell? ⟨w.heap.size + 1 + 1, i, none⟩ = #[nil0, nil0][i]? := fun i => Joins.cell_of_block y2 i
  have f2 : ∀ i, w1.frozen? ⟨w.heap.size + 1 + 1, i, none⟩ = false := fun i => Joins.unfrozen_of_block y2 i
  go_wp2
  have e0 : (w1.setCell ⟨w.heap.size + 1 + 1, 0, none⟩ nil0).heap[w.heap.size + 1 + 1]? = some (boxB nil0 nil0) := by rw [Joins.block_setCell y2]; rfl
  have e1 : ((w1.setCell ⟨w.heap.size + 1 + 1, 0, none⟩ nil0).setCell ⟨w.heap.size + 1 + 1, 1, none⟩ nil0).heap[w.heap.size + 1 + 1]? = some (boxB nil0 nil0) := by rw [Joins.block_setCell e0]; rfl
  exact ret_book (v1 := nil0) (v2 := nil0) Try.results65 rfl rfl rfl e1 ⟨rfl, (hB1.setCell (p := ⟨w.heap.size + 1 + 1, 0, none⟩) (by show w.heap.size ≤ w.heap.size + 1 + 1; omega) _).setCell (p := ⟨w.heap.size + 1 + 1, 1, none⟩) (by show w.heap.size ≤ w.heap.size + 1 + 1; omega) _⟩

set_option maxHeartbeats 2000000 in
theorem ref_app_entry (a1 a2 : Option Addr) (n1 n2 c1 c2 : Nat) (js : List Jb) (rs : List Rg) (x : En) (w : World) (h1 : JobSl w (.slice a1 n1 c1) js) (h2 : RungSl w (.slice a2 n2 c2) rs) (hok : ckBook js rs = 0) (hbad : x.chk ≠ 0) :
    Calls Try.prog 65 #[.agg #[.slice a1 n1 c1, .slice a2 n2 c2], x.val] w fun e w' => e = .returned (.tuple #[.agg #[nil0, nil0], .int .i64 x.chk]) ∧ Below w.heap.size w w' := by
  have H1 : Hid (JobSl w (.slice a1 n1 c1) js) := h1
  have H2 : Hid (RungSl w (.slice a2 n2 c2) rs) := h2
  have hck := fun W g1 g2 => ref_ckBook (.slice a1 n1 c1) (.slice a2 n2 c2) js rs W g1 g2
  rw [hok] at hck
  have hce : ∀ W, Calls Try.prog 54 #[ev x.k x.j x.v x.t x.c] W fun e w' => e = .returned (.int .i64 x.chk) ∧ Below W.heap.size W w' := fun W => ref_check x.k x.j x.v x.t x.c W
  have hb : (x.chk != 0) = true := by rw [bne_iff_ne]; exact hbad
  clear h1 h2 hbad hok
  generalize x.chk = n at *
  go_enter Try.func65, Try.ntmps65
  go_wp2_with fail
  have hB0 := grew (grew (grew (Below.refl w.heap.size w) (boxB (.slice a1 n1 c1) (.slice a2 n2 c2))) (boxE x.k x.j x.v x.t x.c)) (boxB nil0 nil0)
  refine (hck _ (by exact H1.out.later hB0) (by exact H2.out.later hB0)).mono ?_
  rintro e w1 ⟨rfl, hb1⟩
  have y1 : w1.heap[w.heap.size + 1]? = some (boxE x.k x.j x.v x.t x.c) := by
    rw [hb1.block _ (by simp only [World.size_alloc]; omega)]
    have := heap_new (w.alloc (boxB (.slice a1 n1 c1) (.slice a2 n2 c2))) (boxE x.k x.j x.v x.t x.c)
    rw [World.size_alloc] at this
    exact heap_old this _
  have y2 : w1.heap[w.heap.size + 1 + 1]? = some (boxB nil0 nil0) := by
    rw [hb1.block _ (by simp only [World.size_alloc]; omega)]
    have := heap_new ((w.alloc (boxB (.slice a1 n1 c1) (.slice a2 n2 c2))).alloc (boxE x.k x.j x.v x.t x.c)) (boxB nil0 nil0)
    rw [World.size_alloc, World.size_alloc] at this
    exact this
  have hB1 : Below w.heap.size w w1 := hB0.trans (hb1.mono (by simp only [World.size_alloc]; omega))
  clear hb1 hB0 hck H1 H2
  have z1 : ∀ i, w1.cell? ⟨w.heap.size + 1, i, none⟩ = #[Value.int .i64 x.k, .int .i64 x.j, .int .i64 x.v, .int .i64 x.t, .int .i64 x.c][i]? := fun i => Joins.cell_of_block y1 i
  go_wp2_with fail
  refine (hce _).mono ?_
  rintro e w2 ⟨rfl, hb2⟩
  replace y2 := heap_below y2 hb2 (heap_lt y2)
  have hB2 := hB1.trans (hb2.mono hB1.size)
  clear hb2 hB1 hce z1 y1
  have z2 : ∀ i, w2.cell? ⟨w.heap.size + 1 + 1, i, none⟩ = #[nil0, nil0][i]? := fun i => Joins.cell_of_block y2 i
  have f2 : ∀ i, w2.frozen? ⟨w.heap.size + 1 + 1, i, none⟩ = false := fun i => Joins.unfrozen_of_block y2 i
  go_wp2
  have e0 : (w2.setCell ⟨w.heap.size + 1 + 1, 0, none⟩ nil0).heap[w.heap.size + 1 + 1]? = some (boxB nil0 nil0) := by rw [Joins.block_setCell y2]; rfl
  have e1 : ((w2.setCell ⟨w.heap.size + 1 + 1, 0, none⟩ nil0).setCell ⟨w.heap.size + 1 + 1, 1, none⟩ nil0).heap[w.heap.size + 1 + 1]? = some (boxB nil0 nil0) := by rw [Joins.block_setCell e0]; rfl
  exact ret_book (v1 := nil0) (v2 := nil0) Try.results65 rfl rfl rfl e1 ⟨rfl, (hB2.setCell (p := ⟨w.heap.size + 1 + 1, 0, none⟩) (by show w.heap.size ≤ w.heap.size + 1 + 1; omega) _).setCell (p := ⟨w.heap.size + 1 + 1, 1, none⟩) (by show w.heap.size ≤ w.heap.size + 1 + 1; omega) _⟩

/-- The reference's Applied, at every book and entry; its rows lie in blocks of their own types. -/
theorem ref_appliedT (v1 v2 : Value) (js : List Jb) (rs : List Rg) (x : En) (w : World) (h1 : JobSl w v1 js) (h2 : RungSl w v2 rs) :
    Calls Try.prog 65 #[.agg #[v1, v2], x.val] w fun e w' => ∃ u1 u2, e = .returned (.tuple #[.agg #[u1, u2], .int .i64 (app js rs x).2]) ∧ JobSl w' u1 (app js rs x).1.1 ∧ RungSl w' u2 (app js rs x).1.2 ∧ Below w.heap.size w w' ∧ Roomy u2 ∧ Typed 64 w' u1 ∧ Typed 91 w' u2 := by
  obtain ⟨a1, c1, a2, c2, rfl, rfl⟩ := bk_slices h1 h2
  unfold app
  by_cases hb : ckBook js rs = 0
  · rw [if_neg (by simpa using hb)]
    by_cases hx : x.chk = 0
    · rw [if_neg (by simpa using hx)]
      exact ref_app_ok a1 a2 _ _ c1 c2 js rs x w h1 h2 (ckBook_zero.1 hb) hx
    · rw [if_pos hx]
      exact zero_typed (ref_app_entry a1 a2 _ _ c1 c2 js rs x w h1 h2 hb hx)
  · rw [if_pos hb]
    exact zero_typed (ref_app_book a1 a2 _ _ c1 c2 js rs x w h1 h2 hb)

/-- The reference's Applied, at every book and entry; what it answers bears its length. -/
theorem ref_appliedR (v1 v2 : Value) (js : List Jb) (rs : List Rg) (x : En) (w : World) (h1 : JobSl w v1 js) (h2 : RungSl w v2 rs) :
    Calls Try.prog 65 #[.agg #[v1, v2], x.val] w fun e w' => ∃ u1 u2, e = .returned (.tuple #[.agg #[u1, u2], .int .i64 (app js rs x).2]) ∧ JobSl w' u1 (app js rs x).1.1 ∧ RungSl w' u2 (app js rs x).1.2 ∧ Below w.heap.size w w' ∧ Roomy u2 :=
  (ref_appliedT v1 v2 js rs x w h1 h2).mono fun _ _ ⟨u1, u2, g1, g2, g3, g4, g5, _⟩ => ⟨u1, u2, g1, g2, g3, g4, g5⟩

/-- The reference's Applied, at every book and entry. -/
theorem ref_applied (v1 v2 : Value) (js : List Jb) (rs : List Rg) (x : En) (w : World) (h1 : JobSl w v1 js) (h2 : RungSl w v2 rs) : Answers 65 #[.agg #[v1, v2], x.val] w (app js rs x) :=
  (ref_appliedR v1 v2 js rs x w h1 h2).mono fun _ _ ⟨u1, u2, g1, g2, g3, g4, _⟩ => ⟨u1, u2, g1, g2, g3, g4⟩

end Go.Proofs.Ytbokdcdnandgbae
