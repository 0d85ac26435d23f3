/- Package due: slices.MinFunc at jobs. -/
import Derived.Test.YtmfoonalehmjoabDueZb
namespace Go.Proofs.Ytmfoonalehmjoab
open Go.RowKit Go.Shelf

theorem ret_job {fn : Func} {R : Ending → World → Prop} {a : Act} {W : World} {b p : Nat} {x : Jb} (hf : fn.results = #[.cell p 41]) (hd : a.defers = [])
    (h2 : a.tmps.getD p undef = .pointer (some ⟨b, 0, none⟩)) (hR : W.heap[b]? = some (boxJ x)) (hp : R (.returned x.val) W) :
    bodyPost Try.prog fn R .ret a W := by
  have c0 : ∀ i, W.cell? ⟨b, i, none⟩ = #[Value.int .i64 x.i, .int .i64 x.e, .int .i64 x.n][i]? := fun i => Joins.cell_of_block hR i
  have h2' : a.tmps[p]?.getD undef = .pointer (some ⟨b, 0, none⟩) := by simpa using h2
  refine bodyPost_ret (v := x.val) ?_ hd hp
  simp [results, hf, h2', go_sem, c0]

/-- What the comparison reads: a job in the row, a job in its box. -/
abbrev MinS (W w : World) (b o c : Nat) (x z : Jb) : Prop :=
  Below W.heap.size W w ∧ (w.cell? ⟨b, o, none⟩ = some (.int .i64 x.i) ∧ w.cell? ⟨b, o + 1, none⟩ = some (.int .i64 x.e) ∧ w.cell? ⟨b, o + 2, none⟩ = some (.int .i64 x.n)) ∧
  w.cell? ⟨c, 0, none⟩ = some (.int .i64 z.i) ∧ w.cell? ⟨c, 1, none⟩ = some (.int .i64 z.e) ∧ w.cell? ⟨c, 2, none⟩ = some (.int .i64 z.n)

theorem minS_step {W w w' : World} {b o c : Nat} {x z : Jb} (h : MinS W w b o c x z) (hb : Below w.heap.size w w') : MinS W w' b o c x z :=
  ⟨h.1.trans (hb.mono h.1.size), ⟨cell_later hb h.2.1.1, cell_later hb h.2.1.2.1, cell_later hb h.2.1.2.2⟩, cell_later hb h.2.2.1, cell_later hb h.2.2.2.1, cell_later hb h.2.2.2.2⟩

theorem box_set {w : World} {g : Nat} {z x : Jb} (h : w.heap[g]? = some (boxJ z)) :
    (((w.setCell ⟨g, 0, none⟩ (.int .i64 x.i)).setCell ⟨g, 1, none⟩ (.int .i64 x.e)).setCell ⟨g, 2, none⟩ (.int .i64 x.n)).heap[g]? = some (boxJ x) := by
  have h0 : w.heap[g]? = some (.cells [.int .i64 z.i, .int .i64 z.e, .int .i64 z.n].toArray 41) := h
  exact block_set (block_set (block_set h0 _) _) _

set_option maxHeartbeats 4000000 in
set_option maxRecDepth 100000 in
theorem min_any (v : Value) (js : List Jb) (w : World) (hv : JobSl w v js) (hn0 : 0 < js.length) (hn : js.length ≤ 6) :
    Calls Try.prog 49 #[v, .func (.func 47) #[] #[]] w fun e w' => ∃ z, e = .returned z.val ∧ z ∈ js ∧ (∀ y, y ∈ js → ¬ y.ahead z) ∧ Below w.heap.size w w' := by
  have eg : ∀ args w, (callFunc 47 args).run Try.prog w = .ok (.enter 47 args) w := enters_of Try.func47 (by kernel_rfl) rfl
  obtain ⟨b, off, c, rfl, hE0⟩ := hv.form hn0
  have HE : Aside (RowAt Jb.cells 3 w b off js) := hE0
  obtain ⟨x0, hx0⟩ : ∃ x, js[0]? = some x := ⟨js[0]'hn0, List.getElem?_eq_getElem _⟩
  have c0 : w.cell? ⟨b, off, none⟩ = some (.int .i64 x0.i) := by simpa using hE0 0 x0 hx0 0 _ rfl
  have c1 : w.cell? ⟨b, off + 1, none⟩ = some (.int .i64 x0.e) := by simpa using hE0 0 x0 hx0 1 _ rfl
  have c2 : w.cell? ⟨b, off + 2, none⟩ = some (.int .i64 x0.n) := by simpa using hE0 0 x0 hx0 2 _ rfl
  have hbl : b < w.heap.size := World.block_lt_of_cell? _ _ c0
  have H0 : Hid (x0 ∈ js ∧ ∀ y, y ∈ js.take 1 → ¬ y.ahead x0) := by
    refine ⟨List.mem_of_getElem? hx0, fun y hy => ?_⟩
    have : js.take 1 = [x0] := by rw [List.take_add_one]; simp [hx0]
    rw [this] at hy
    obtain rfl : y = x0 := by simpa using hy
    unfold Jb.ahead
    omega
  obtain ⟨n, hnn⟩ : ∃ n, Hid (js.length = n) := ⟨_, rfl⟩
  rw [hnn.out] at hn0 hn ⊢
  clear hv hE0 hx0
  go_enter Try.func49, Try.ntmps49
  go_wp2
  have hW0 : ((w.alloc (boxJ ⟨0, 0, 0⟩)).alloc (boxJ x0)).heap[w.heap.size]? = some (boxJ ⟨0, 0, 0⟩) := heap_old (heap_new _ _) _
  have hW1 : ((w.alloc (boxJ ⟨0, 0, 0⟩)).alloc (boxJ x0)).heap[w.heap.size + 1]? = some (boxJ x0) := by
    have := heap_new (w.alloc (boxJ ⟨0, 0, 0⟩)) (boxJ x0)
    rwa [World.size_alloc] at this
  have hWB : Below w.heap.size w ((w.alloc (boxJ ⟨0, 0, 0⟩)).alloc (boxJ x0)) := grew (grew (Below.refl _ _) _) _
  have hWs : ((w.alloc (boxJ ⟨0, 0, 0⟩)).alloc (boxJ x0)).heap.size = w.heap.size + 2 := by rw [World.size_alloc, World.size_alloc]
  generalize (w.alloc (boxJ ⟨0, 0, 0⟩)).alloc (boxJ x0) = W1 at *
  go_loopw [6] (fun i wr => ∃ (k : Nat) (z : Jb), 1 ≤ k ∧ k ≤ n ∧ i = .int .i64 k ∧ Aside (wr.heap[w.heap.size + 1]? = some (boxJ z)) ∧ Aside (Kept [w.heap.size + 1] W1 wr) ∧ Hid (z ∈ js ∧ ∀ y, y ∈ js.take k → ¬ y.ahead z)) (fun i _ => n - (intOf i).toNat)
  case atStart => exact ⟨1, x0, Nat.le_refl _, by omega, rfl, hW1, Kept.refl _ _, H0⟩
  case round =>
    obtain ⟨k, z, hk1, hk, rfl, hz, hK, hM⟩ := hrel
    have HB : Aside (Below w.heap.size w wr) := hWB.trans (hK.out.to hWB.size (fun k hk => by simp at hk; omega))
    by_cases hlt : k < n
    · obtain ⟨x, hx⟩ : ∃ x, js[k]? = some x := ⟨js[k]'(by have := hnn.out; omega), List.getElem?_eq_getElem _⟩
      have hrow := HE.out.later HB.out
      have hS0 : MinS wr wr b (off + k * 3) (w.heap.size + 1) x z :=
        ⟨Below.refl _ _, ⟨hrow k x hx 0 _ rfl, hrow k x hx 1 _ rfl, hrow k x hx 2 _ rfl⟩, Joins.cell_of_block hz.out 0, Joins.cell_of_block hz.out 1, Joins.cell_of_block hz.out 2⟩
      have hbd : Below wr.heap.size wr wr.drew := (Below.refl _ _).drew
      have hcall := fun W => inTurn_any x z W
      obtain ⟨q, hq⟩ : ∃ q, Hid (turn x z = q) := ⟨_, rfl⟩
      rw [hq.out] at hcall
      have hneg : Hid (q < 0 ↔ x.ahead z) := by rw [← hq.out]; exact turn_neg x z
      have HN : Hid (∀ z' : Jb, (∀ y, y ∈ js.take k → ¬ y.ahead z') → ¬ x.ahead z' → ∀ y, y ∈ js.take (k + 1) → ¬ y.ahead z') := fun z' h1 h2 y hy => by
        rw [List.take_add_one, hx] at hy
        rcases List.mem_append.1 hy with hy | hy
        · exact h1 y hy
        · obtain rfl : y = x := by simpa using hy
          exact h2
      have HX : Hid (x ∈ js) := List.mem_of_getElem? hx
      clear hrow hq hx
      go_wp2_with fail
      go_region_held3 (fun w' => MinS wr w' b (off + k * 3) (w.heap.size + 1) x z) (exact minS_step (by assumption) (by assumption)) (first | (refine (hcall _).mono ?_; rintro e w1 ⟨rfl, hb1⟩))
      rename_i hS
      have hb01 : Below wr.heap.size wr w1 := hS.1
      have k0 := hS.2.1.1
      have k1 := hS.2.1.2.1
      have k2 := hS.2.1.2.2
      have hz1 : w1.heap[w.heap.size + 1]? = some (boxJ z) := heap_below hz.out hb01 (heap_lt hz.out)
      have hK1 : Aside (Kept [w.heap.size + 1] W1 w1) := hK.out.below hb01
      have m0 := hS.2.2.1
      have m1 := hS.2.2.2.1
      have m2 := hS.2.2.2.2
      have f1 : ∀ i, w1.frozen? ⟨w.heap.size + 1, i, none⟩ = false := fun i => Joins.unfrozen_of_block hz1 i
      have hbx : b ≠ w.heap.size + 1 := by omega
      clear hS hb1 hcall hbd hS0
      by_cases hxz : x.ahead z
      · have hq0 : q < 0 := hneg.out.2 hxz
        have HM : Hid (x ∈ js ∧ ∀ y, y ∈ js.take (k + 1) → ¬ y.ahead x) := ⟨HX.out, HN.out x (fun y hy h => hM.out.2 y hy (ahead_trans h hxz)) (by unfold Jb.ahead; omega)⟩
        have hz2 : Aside _ := box_set (x := x) hz1
        have hK2 : Aside _ := ((hK1.out.setCell (g := w.heap.size + 1) (o := 0) (by simp) (.int .i64 x.i)).setCell (g := w.heap.size + 1) (o := 1) (by simp) (.int .i64 x.e)).setCell (g := w.heap.size + 1) (o := 2) (by simp) (.int .i64 x.n)
        clear hM HN HX hneg hz hK hb01 hK1
        go_wp2
        go_roundw
        case rel => exact ⟨k + 1, x, by omega, by omega, by go_num, hz2, hK2, HM⟩
        case measure => simp [intOf]; omega
      · have hq0 : ¬ q < 0 := fun h => hxz (hneg.out.1 h)
        have HM : Hid (z ∈ js ∧ ∀ y, y ∈ js.take (k + 1) → ¬ y.ahead z) := ⟨hM.out.1, HN.out z hM.out.2 hxz⟩
        replace hz1 : Aside _ := hz1
        clear hM HN HX hneg hz hK hb01
        go_wp2
        go_roundw
        case rel => exact ⟨k + 1, z, by omega, by omega, by go_num, hz1, hK1, HM⟩
        case measure => simp [intOf]; omega
    · obtain rfl : k = n := by omega
      have HM : Hid (z ∈ js ∧ ∀ y, y ∈ js → ¬ y.ahead z) := by
        have h := hM.out
        rwa [List.take_of_length_le (by have := hnn.out; omega)] at h
      have hr0 : wr.heap[w.heap.size]? = some (boxJ ⟨0, 0, 0⟩) := hK.out.old hW0 (by simp)
      have z0 : ∀ i, wr.cell? ⟨w.heap.size, i, none⟩ = #[Value.int .i64 0, .int .i64 0, .int .i64 0][i]? := fun i => Joins.cell_of_block hr0 i
      have z1 : ∀ i, wr.cell? ⟨w.heap.size + 1, i, none⟩ = #[Value.int .i64 z.i, .int .i64 z.e, .int .i64 z.n][i]? := fun i => Joins.cell_of_block hz.out i
      have f1 : ∀ i, wr.frozen? ⟨w.heap.size, i, none⟩ = false := fun i => Joins.unfrozen_of_block hr0 i
      have hr2 : Aside _ := box_set (x := z) hr0
      have hB2 : Aside (Below w.heap.size w _) := HB.out.trans ((((Kept.refl [w.heap.size] wr).setCell (g := w.heap.size) (o := 0) (by simp) (.int .i64 z.i)).setCell (g := w.heap.size) (o := 1) (by simp) (.int .i64 z.e)).setCell (g := w.heap.size) (o := 2) (by simp) (.int .i64 z.n) |>.to HB.out.size (fun k hk => by simp at hk; omega))
      clear hM hz hK HB HE H0 hW0 hW1 hWB
      go_wp2
      exact ret_job (p := 4) (b := w.heap.size) rfl rfl rfl hr2.out ⟨z, rfl, HM.out.1, HM.out.2, hB2.out⟩

end Go.Proofs.Ytmfoonalehmjoab
