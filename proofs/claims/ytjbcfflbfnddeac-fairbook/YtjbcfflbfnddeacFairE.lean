/- The walk of FairSteady, given package fair's and package book's contracts. -/
import Derived.Test.YtjbcfflbfnddeacFairD
import Derived.Test.YtjbcfflbfnddeacFairM
import Derived.Test.YtjbcfflbfnddeacLast
namespace Go.Proofs.Ytjbcfflbfnddeac
open Go.RowKit Go.Maps

theorem cell_turned {w w' : World} {b : Nat} (ht : w.mapTurned w' b) {g o : Nat} {v : Value} (h : w.cell? ⟨g, o, none⟩ = some v) : w'.cell? ⟨g, o, none⟩ = some v := by
  have hne : g ≠ b := by
    rintro rfl
    obtain ⟨es, clock, _, _, hb, _⟩ := ht
    simp [World.cell?, hb] at h
  have hh := turned_old ht hne (World.block_lt_of_cell? _ _ h)
  have e : w'.cell? ⟨g, o, none⟩ = w.cell? ⟨g, o, none⟩ := by simp only [World.cell?, hh]
  rw [e]; exact h

theorem sl_turned {α : Type} {cs : α → List Value} {k : Nat} {w w' : World} {b : Nat} {v : Value} {xs : List α} (ht : w.mapTurned w' b) (h : SlOf cs k w v xs) : SlOf cs k w' v xs := by
  obtain ⟨a, c, rfl, hc⟩ := h
  refine ⟨a, c, rfl, hc.imp id fun ⟨g, off, ha, hE⟩ => ⟨g, off, ha, fun j x hj i u hi => cell_turned ht (hE j x hj i u hi)⟩⟩

/-- Where the round stands: the book in its block, when each job is due next in the map. -/
structure Std (w W : World) (B n : Nat) (js : List Jb) (rs : List Rg) (u1 u2 : Value) (f : Int → Option Int) : Prop where
  head : W.heap[B]? = some (boxB u1 u2)
  jobs : JobSl W u1 js
  rungs : RungSl W u2 rs
  map : MapIs W (B + 1) n f
  ok : Ok js rs
  next : ∀ z, z ∈ js → f z.i = some z.n
  below : Below w.heap.size w W
  base : w.heap.size ≤ B

theorem Std.later {w W W' : World} {B n : Nat} {js : List Jb} {rs : List Rg} {u1 u2 : Value} {f : Int → Option Int} (h : Std w W B n js rs u1 u2 f) (hb : Below W.heap.size W W') : Std w W' B n js rs u1 u2 f :=
  ⟨heap_below h.head hb (heap_lt h.head), h.jobs.later hb, h.rungs.later hb, h.map.later hb, h.ok, h.next, h.below.trans (hb.mono h.below.size), h.base⟩

/-- b = c. -/
theorem std_store {w W : World} {B n : Nat} {js' : List Jb} {rs' : List Rg} {a1 a2 b1 b2 : Option Addr} {n1 n2 q1 q2 m1 m2 d1 d2 : Nat} {f : Int → Option Int} (head : W.heap[B]? = some (boxB (.slice a1 n1 q1) (.slice a2 n2 q2))) (map : MapIs W (B + 1) n f) (below : Below w.heap.size w W) (base : w.heap.size ≤ B)
    (g1 : JobSl W (.slice b1 m1 d1) js') (g2 : RungSl W (.slice b2 m2 d2) rs') (hok : Ok js' rs') (hf : ∀ z, z ∈ js' → f z.i = some z.n) :
    Std w ((W.setCell ⟨B, 0, none⟩ (.slice b1 m1 d1)).setCell ⟨B, 1, none⟩ (.slice b2 m2 d2)) B n js' rs' (.slice b1 m1 d1) (.slice b2 m2 d2) f := by
  have y0 : (W.setCell ⟨B, 0, none⟩ (.slice b1 m1 d1)).heap[B]? = some (boxB (.slice b1 m1 d1) (.slice a2 n2 q2)) := by rw [Joins.block_setCell head]; rfl
  have y1 : ((W.setCell ⟨B, 0, none⟩ (.slice b1 m1 d1)).setCell ⟨B, 1, none⟩ (.slice b2 m2 d2)).heap[B]? = some (boxB (.slice b1 m1 d1) (.slice b2 m2 d2)) := by rw [Joins.block_setCell y0]; rfl
  have hne : B ≠ B + 1 := by omega
  exact ⟨y1, (g1.beside Jb.ints head _ _).beside Jb.ints y0 _ _, (g2.beside Rg.ints head _ _).beside Rg.ints y0 _ _, (map.setCell hne _).setCell hne _, hok, hf,
    (below.setCell (p := ⟨B, 0, none⟩) base _).setCell (p := ⟨B, 1, none⟩) base _, base⟩

theorem Std.store {w W : World} {B n : Nat} {js js' : List Jb} {rs rs' : List Rg} {a1 a2 b1 b2 : Option Addr} {n1 n2 q1 q2 m1 m2 d1 d2 : Nat} {f : Int → Option Int} (h : Std w W B n js rs (.slice a1 n1 q1) (.slice a2 n2 q2) f) (g1 : JobSl W (.slice b1 m1 d1) js') (g2 : RungSl W (.slice b2 m2 d2) rs') (hok : Ok js' rs') (hf : ∀ z, z ∈ js' → f z.i = some z.n) :
    Std w ((W.setCell ⟨B, 0, none⟩ (.slice b1 m1 d1)).setCell ⟨B, 1, none⟩ (.slice b2 m2 d2)) B n js' rs' (.slice b1 m1 d1) (.slice b2 m2 d2) f := std_store h.head h.map h.below h.base g1 g2 hok hf

/-- The map is turned, then b = c. -/
theorem Std.put {w W W' : World} {B n m : Nat} {js js' : List Jb} {rs rs' : List Rg} {a1 a2 b1 b2 : Option Addr} {n1 n2 q1 q2 m1 m2 d1 d2 : Nat} {f g : Int → Option Int} (h : Std w W B n js rs (.slice a1 n1 q1) (.slice a2 n2 q2) f) (ht : W.mapTurned W' (B + 1)) (hm : MapIs W' (B + 1) m g) (g1 : JobSl W (.slice b1 m1 d1) js') (g2 : RungSl W (.slice b2 m2 d2) rs') (hok : Ok js' rs') (hg : ∀ z, z ∈ js' → g z.i = some z.n) :
    Std w ((W'.setCell ⟨B, 0, none⟩ (.slice b1 m1 d1)).setCell ⟨B, 1, none⟩ (.slice b2 m2 d2)) B m js' rs' (.slice b1 m1 d1) (.slice b2 m2 d2) g :=
  std_store ((turned_old ht (by omega) (heap_lt h.head)).trans h.head) hm (h.below.trans (turned_below ht (by have := h.base; omega) h.below.size)) h.base (sl_turned ht g1) (sl_turned ht g2) hok hg

/-- What an entry does to when each job is due. -/
theorem steady_ways {js : List Jb} {rs : List Rg} {x : En} (hok : Ok js rs) (hx : x.chk = 0) {f : Int → Option Int} (hf : ∀ z, z ∈ js → f z.i = some z.n) :
    (∃ (m : Nat) (z : Jb), jobAt js x.j = m ∧ js[m]? = some z ∧ f x.j = some x.t ∧ z.i = x.j ∧ (1 ≤ z.e ∧ z.e ≤ 100) ∧ (step js rs x).2 = rs ++ [⟨x.j, x.t, x.c⟩] ∧ (step js rs x).1.length = js.length ∧ ∀ y, y ∈ (step js rs x).1 → turned f x.j (some (x.t + z.e)) y.i = some y.n) ∨
    ((step js rs x).2 = rs ∧ (step js rs x).1.length = js.length + 1 ∧ ∀ y, y ∈ (step js rs x).1 → turned f x.j (some x.t) y.i = some y.n) ∨
    ((step js rs x).2 = rs ∧ (step js rs x).1.length ≤ js.length ∧ ∀ y, y ∈ (step js rs x).1 → f y.i = some y.n) := by
  have hX := En.right hx
  have hi : (-1 : Int) < x.j := by omega
  rcases step_ways (js := js) (rs := rs) hx with ⟨e, _⟩ | ⟨_, hn, e⟩ | ⟨_, e⟩ | ⟨_, z, ht, hzn, _, e⟩ <;> rw [e]
  · exact Or.inr (Or.inr ⟨rfl, Nat.le_refl _, hf⟩)
  · refine Or.inr (Or.inl ⟨rfl, alt_len_none hok.srt hi hn _, fun y hy => ?_⟩)
    rcases alt_mem.1 hy with ⟨h1, h2⟩ | h
    · rw [turned, if_neg h2]; exact hf y h1
    · obtain rfl := Option.some.inj h
      rw [turned, if_pos rfl]
  · refine Or.inr (Or.inr ⟨rfl, ?_, fun y hy => ?_⟩)
    · cases hn : tab js x.j with
      | none => have := alt_len_none hok.srt hi hn none; simp at this; show (alt _ _ _).length ≤ _; omega
      | some z => have := alt_len_some hok.srt hi hn none; simp at this; show (alt _ _ _).length ≤ _; omega
    · rcases alt_mem.1 hy with ⟨h1, _⟩ | h
      · exact hf y h1
      · cases h
  · obtain ⟨hzi, hzm⟩ := tab_id ht
    left
    refine (jobAt_ways js x.j).elim (fun ⟨_, hn⟩ => ?_) (fun ⟨m, z', hm, hz', htz⟩ => ?_)
    · rw [ht] at hn; cases hn
    · rw [ht] at htz
      obtain rfl : z = z' := Option.some.inj htz
      have hg := Jb.good (hok.jobs z hzm)
      have hl := alt_len_some hok.srt hi ht (some ⟨x.j, z.e, x.t + z.e⟩)
      refine ⟨m, z, hm, hz', ?_, hzi, hg.2.1, rfl, ?_, fun y hy => ?_⟩
      · rw [← hzi, hf z hzm, hzn]
      · show (alt _ _ _).length = _
        simp at hl
        omega
      · rcases alt_mem.1 hy with ⟨h1, h2⟩ | h
        · rw [turned, if_neg h2]; exact hf y h1
        · obtain rfl := Option.some.inj h
          rw [turned, if_pos rfl]

set_option maxHeartbeats 2000000 in
theorem fairSteady_many (hK : Lives) (v : Value) (es : List En) (w : World) (hv : EntSl w v es) (hn : 60 < es.length) :
    Calls Try.prog 5 #[v] w fun e w' => e = .returned (.bool true) ∧ Below w.heap.size w w' := by
  have hl := fun W => lived_any hK W
  obtain ⟨a, c, rfl, _⟩ := hv
  generalize es.length = n at *
  have hn' : (60 : Int) < (n : Int) := by omega
  go_enter Try.func5, Try.ntmps5
  go_wp2_with fail
  refine (hl _).mono ?_
  rintro e w1 ⟨rfl, hb1⟩
  go_wp2_with fail
  refine (hl _).mono ?_
  rintro e w2 ⟨rfl, hb2⟩
  have hB2 := step_below hb1 hb2
  clear hl hb1 hb2
  go_wp2
  go_ret
  exact ⟨rfl, hB2⟩

set_option linter.unusedSimpArgs false in
set_option maxHeartbeats 8000000 in
set_option maxRecDepth 100000 in
theorem fairSteady_few (hK : Lives) (hF : BookF) (v : Value) (es : List En) (w : World) (hv : EntSl w v es) (hn : es.length ≤ 60) :
    Calls Try.prog 5 #[v] w fun e w' => e = .returned (.bool true) ∧ Below w.heap.size w w' := by
  have hl := fun W => lived_any hK W
  have hmm := @run_makeMap Try.prog
  have HE : Hid (EntSl w v es) := hv
  have HF : Aside BookF := hF
  obtain ⟨a, c, rfl, _⟩ := hv
  obtain ⟨n0, hn0⟩ : ∃ n0, Hid (es.length = n0) := ⟨_, rfl⟩
  rw [hn0.out] at hn HE ⊢
  have hn' : (n0 : Int) ≤ 60 := by omega
  clear hK hF
  go_enter Try.func5, Try.ntmps5
  go_wp2_with fail
  refine (hl _).mono ?_
  rintro e w1 ⟨rfl, hb1⟩
  have HS0 : Aside (Std w ((w1.alloc (boxB nil0 nil0)).alloc (.map #[] 0)) w1.heap.size 0 [] [] nil0 nil0 fun _ => none) := by
    have hm := mapIs_made (w1.alloc (boxB nil0 nil0))
    rw [World.size_alloc] at hm
    exact ⟨heap_old (heap_new _ _) _, SlOf.nil _ _, SlOf.nil _ _, hm, ckBook_zero.1 (by simp [ckBook, ckJobs, ckRungs]), (fun z hz => by cases hz), grew (grew hb1 _) _, hb1.size⟩
  clear hl hb1
  go_wp2
  generalize w1.heap.size = B at *
  go_loopw [22] (fun i wr => ∃ (k n : Nat) (js : List Jb) (rs : List Rg) (a1 a2 : Option Addr) (n1 n2 q1 q2 : Nat) (f : Int → Option Int), k ≤ n0 ∧ i = .int .i64 k ∧ n ≤ k ∧ Aside (Std w wr B n js rs (.slice a1 n1 q1) (.slice a2 n2 q2) f)) (fun i _ => n0 - (intOf i).toNat)
  case atStart => exact ⟨0, 0, [], [], none, none, 0, 0, 0, 0, _, Nat.zero_le _, rfl, Nat.le_refl _, HS0⟩
  case round =>
    obtain ⟨k, n, js, rs, a1, a2, n1, n2, q1, q2, f, hk, rfl, hnk, HS⟩ := hrel
    have hhead := HS.out.head
    have hBl := heap_lt hhead
    have zr : ∀ i, wr.cell? ⟨B, i, none⟩ = #[Value.slice a1 n1 q1, .slice a2 n2 q2][i]? := fun i => Joins.cell_of_block hhead i
    have hl1 : js.length = n1 := HS.out.jobs.len
    have hl2 : rs.length = n2 := HS.out.rungs.len
    by_cases hlt : k < n0
    · obtain ⟨x, hx⟩ : ∃ x, es[k]? = some x := ⟨es[k]'(by have := hn0.out; omega), List.getElem?_eq_getElem _⟩
      obtain ⟨b, off, rfl, hE0⟩ : ∃ b off, a = some ⟨b, off, none⟩ ∧ EntsAt w b off es := by
        obtain ⟨a', c', e, hc⟩ := HE.out
        injection e with e1 e2 e3
        subst e1
        rcases hc with hc | hc
        · omega
        · exact hc
      have hE := hE0.later HS.out.below
      have d0 : wr.cell? ⟨b, off + k * 5, none⟩ = some (.int .i64 x.k) := hE k x hx 0 _ rfl
      have d1 : wr.cell? ⟨b, off + k * 5 + 1, none⟩ = some (.int .i64 x.j) := hE k x hx 1 _ rfl
      have d2 : wr.cell? ⟨b, off + k * 5 + 2, none⟩ = some (.int .i64 x.v) := hE k x hx 2 _ rfl
      have d3 : wr.cell? ⟨b, off + k * 5 + 3, none⟩ = some (.int .i64 x.t) := hE k x hx 3 _ rfl
      have d4 : wr.cell? ⟨b, off + k * 5 + 4, none⟩ = some (.int .i64 x.c) := hE k x hx 4 _ rfl
      have hgrow := grew (Below.refl wr.heap.size wr) (boxE x.k x.j x.v x.t x.c)
      have HSa := HS.out.later hgrow
      have hap := HF.out.applyR _ _ js rs x _ HSa.jobs HSa.rungs (by have := HSa.ok.few; unfold most; omega) (by have := HSa.ok.room; unfold most; omega)
      have hXb : (wr.alloc (boxE x.k x.j x.v x.t x.c)).heap[wr.heap.size]? = some (boxE x.k x.j x.v x.t x.c) := heap_new _ _
      have hsz : (wr.alloc (boxE x.k x.j x.v x.t x.c)).heap.size = wr.heap.size + 1 := World.size_alloc _ _
      clear hE hE0 hx HE HS0
      go_wp2_with fail
      refine hap.mono ?_
      rintro e w2 ⟨t1, t2, rfl, J2, R2, hb2, _⟩
      obtain ⟨b1, d1', b2, d2', rfl, rfl⟩ := bk_slices J2 R2
      have HS2 : Aside (Std w w2 B n js rs (.slice a1 n1 q1) (.slice a2 n2 q2) f) := HSa.later hb2
      have hX2 : w2.heap[wr.heap.size]? = some (boxE x.k x.j x.v x.t x.c) := heap_below hXb hb2 (by rw [hsz]; omega)
      have h22 : wr.heap.size < w2.heap.size := heap_lt hX2
      clear hap hb2 HSa hgrow hXb hsz d0 d1 d2 d3 d4 zr hhead HS
      by_cases he : (app js rs x).2 = 0
      · obtain ⟨_, hxc, happ⟩ := app_ok he
        rw [happ] at J2 R2 he ⊢
        have hok' := step_ok HS2.out.ok hxc
        have hways := steady_ways HS2.out.ok hxc HS2.out.next
        have hX := En.right hxc
        clear happ he
        generalize (step js rs x).1 = js' at *
        generalize (step js rs x).2 = rs' at *
        obtain ⟨m1, hm1⟩ : ∃ m1, js'.length = m1 := ⟨_, rfl⟩
        obtain ⟨m2, hm2⟩ : ∃ m2, rs'.length = m2 := ⟨_, rfl⟩
        simp only [hm1, hm2] at J2 R2 hways ⊢
        have hg3 := grew (Below.refl w2.heap.size w2) (boxB (.slice b1 m1 d1') (.slice b2 m2 d2'))
        have HS3 : Aside (Std w (w2.alloc (boxB (.slice b1 m1 d1') (.slice b2 m2 d2'))) B n js rs (.slice a1 n1 q1) (.slice a2 n2 q2) f) := HS2.out.later hg3
        have J3 : Aside (JobSl (w2.alloc (boxB (.slice b1 m1 d1') (.slice b2 m2 d2'))) (.slice b1 m1 d1') js') := J2.later hg3
        have R3 : Aside (RungSl (w2.alloc (boxB (.slice b1 m1 d1') (.slice b2 m2 d2'))) (.slice b2 m2 d2') rs') := R2.later hg3
        have y2 := HS2.out.head
        have zB : ∀ i, w2.cell? ⟨B, i, none⟩ = #[Value.slice a1 n1 q1, .slice a2 n2 q2][i]? := fun i => Joins.cell_of_block y2 i
        have fB : ∀ i, w2.frozen? ⟨B, i, none⟩ = false := fun i => Joins.unfrozen_of_block y2 i
        have hB2 := heap_lt y2
        have hBn : B ≠ w2.heap.size := by omega
        have zX : ∀ i, w2.cell? ⟨wr.heap.size, i, none⟩ = #[Value.int .i64 x.k, .int .i64 x.j, .int .i64 x.v, .int .i64 x.t, .int .i64 x.c][i]? := fun i => Joins.cell_of_block hX2 i
        have hXn : wr.heap.size ≠ w2.heap.size := by omega
        replace J2 : Aside _ := J2
        replace R2 : Aside _ := R2
        replace hg3 : Aside _ := hg3
        clear y2
        rcases hways with ⟨m, z, hm, hz, hfx, hzi, hze, hrs, hle, hf'⟩ | ⟨hrs, hle, hf'⟩ | ⟨hrs, hle, hf'⟩
        · have e1 : m1 = n1 := by omega
          have e2 : m2 = n2 + 1 := by rw [← hm2, hrs, List.length_append, hl2]; rfl
          subst e1 e2
          clear hle
          have hnew : rs'[n2]? = some ⟨x.j, x.t, x.c⟩ := by rw [hrs, ← hl2]; simp
          obtain ⟨rb, roff, rfl, hR0⟩ := R3.out.at (by omega)
          have r0 : (w2.alloc (boxB (.slice b1 m1 d1') (.slice (some ⟨rb, roff, none⟩) (n2 + 1) d2'))).cell? ⟨rb, roff + n2 * 3, none⟩ = some (.int .i64 x.j) := hR0 n2 _ hnew 0 _ rfl
          have r1 : (w2.alloc (boxB (.slice b1 m1 d1') (.slice (some ⟨rb, roff, none⟩) (n2 + 1) d2'))).cell? ⟨rb, roff + n2 * 3 + 1, none⟩ = some (.int .i64 x.t) := hR0 n2 _ hnew 1 _ rfl
          have r2 : (w2.alloc (boxB (.slice b1 m1 d1') (.slice (some ⟨rb, roff, none⟩) (n2 + 1) d2'))).cell? ⟨rb, roff + n2 * 3 + 2, none⟩ = some (.int .i64 x.c) := hR0 n2 _ hnew 2 _ rfl
          have hmn : m < m1 := by have := (List.getElem?_eq_some_iff.1 hz).1; rwa [hl1] at this
          have hn2 : (n2 : Int) < ((n2 + 1 : Nat) : Int) := by omega
          clear hR0 hnew
          have hg4 := grew (Below.refl (w2.alloc (boxB (.slice b1 m1 d1') (.slice (some ⟨rb, roff, none⟩) (n2 + 1) d2'))).heap.size (w2.alloc (boxB (.slice b1 m1 d1') (.slice (some ⟨rb, roff, none⟩) (n2 + 1) d2')))) (boxR ⟨x.j, x.t, x.c⟩)
          have HS4 := HS3.out.later hg4
          have hfind := HF.out.find _ _ js rs x.j _ HS4.jobs HS4.rungs (by have := HS4.ok.few; unfold most; omega) (by have := HS4.ok.room; unfold most; omega)
          rw [hm] at hfind
          have uC : ((w2.alloc (boxB (.slice b1 m1 d1') (.slice (some ⟨rb, roff, none⟩) (n2 + 1) d2'))).alloc (boxR ⟨x.j, x.t, x.c⟩)).heap[w2.heap.size]? = some (boxB (.slice b1 m1 d1') (.slice (some ⟨rb, roff, none⟩) (n2 + 1) d2')) := heap_old (heap_new _ _) _
          have uR : ((w2.alloc (boxB (.slice b1 m1 d1') (.slice (some ⟨rb, roff, none⟩) (n2 + 1) d2'))).alloc (boxR ⟨x.j, x.t, x.c⟩)).heap[w2.heap.size + 1]? = some (boxR ⟨x.j, x.t, x.c⟩) := by
            have := heap_new (w2.alloc (boxB (.slice b1 m1 d1') (.slice (some ⟨rb, roff, none⟩) (n2 + 1) d2'))) (boxR ⟨x.j, x.t, x.c⟩)
            rwa [World.size_alloc] at this
          have uX : ((w2.alloc (boxB (.slice b1 m1 d1') (.slice (some ⟨rb, roff, none⟩) (n2 + 1) d2'))).alloc (boxR ⟨x.j, x.t, x.c⟩)).heap[wr.heap.size]? = some (boxE x.k x.j x.v x.t x.c) := heap_old (heap_old hX2 _) _
          have J4 := J3.out.later hg4
          have R4 := R3.out.later hg4
          replace J4 : Aside _ := J4
          replace R4 : Aside _ := R4
          replace HS4 : Aside _ := HS4
          replace uC : Aside _ := uC
          replace uR : Aside _ := uR
          replace uX : Aside _ := uX
          clear HS3 J3 R3 HS2 J2 R2 hg3 hg4 hX2 hm
          go_wp2_with fail
          refine hfind.mono ?_
          rintro e w5 ⟨rfl, hb5⟩
          have HS5 : Aside (Std w w5 B n js rs (.slice a1 m1 q1) (.slice a2 n2 q2) f) := HS4.out.later hb5
          have J5 : Aside (JobSl w5 (.slice b1 m1 d1') js') := SlOf.later J4.out hb5
          have R5 : Aside (RungSl w5 (.slice (some ⟨rb, roff, none⟩) (n2 + 1) d2') rs') := SlOf.later R4.out hb5
          have vC := heap_below uC.out hb5 (heap_lt uC.out)
          have vR := heap_below uR.out hb5 (heap_lt uR.out)
          have vX := heap_below uX.out hb5 (heap_lt uX.out)
          have vB := HS5.out.head
          clear hfind r0 r1 r2 hb5 HS4 J4 R4 uC uR uX zB fB zX
          have zB : ∀ i, w5.cell? ⟨B, i, none⟩ = #[Value.slice a1 m1 q1, .slice a2 n2 q2][i]? := fun i => Joins.cell_of_block vB i
          have zC : ∀ i, w5.cell? ⟨w2.heap.size, i, none⟩ = #[Value.slice b1 m1 d1', .slice (some ⟨rb, roff, none⟩) (n2 + 1) d2'][i]? := fun i => Joins.cell_of_block vC i
          have zR : ∀ i, w5.cell? ⟨w2.heap.size + 1, i, none⟩ = #[Value.int .i64 x.j, .int .i64 x.t, .int .i64 x.c][i]? := fun i => Joins.cell_of_block vR i
          have zX : ∀ i, w5.cell? ⟨wr.heap.size, i, none⟩ = #[Value.int .i64 x.k, .int .i64 x.j, .int .i64 x.v, .int .i64 x.t, .int .i64 x.c][i]? := fun i => Joins.cell_of_block vX i
          have hlook := HS5.out.map.look x.j (by omega)
          rw [hfx, Option.getD_some] at hlook
          obtain ⟨jb, joff, rfl, hJ0⟩ := HS5.out.jobs.at (by omega)
          have je : w5.cell? ⟨jb, joff + m * 3 + 1, none⟩ = some (.int .i64 z.e) := hJ0 m _ hz 1 _ rfl
          have hmi : ¬ ((m : Int) < 0) := by omega
          have hmd : decide ((m : Int) < 0) = false := decide_eq_false hmi
          have hmj : (m : Int) < (m1 : Int) := by omega
          have hm0 : (0 : Int) ≤ (m : Int) := by omega
          have VC : Aside _ := vC
          have hdr : Below w5.heap.size w5 w5.drew := (Below.refl _ _).drew
          have HSd : Aside (Std w w5.drew B n js rs (.slice (some ⟨jb, joff, none⟩) m1 q1) (.slice a2 n2 q2) f) := HS5.out.later hdr
          have hlook2 := HSd.out.map.look x.j (by omega)
          rw [hfx, Option.getD_some] at hlook2
          obtain ⟨w6, hrun, hmap6, htn6⟩ := HSd.out.map.put (by omega) x.j (x.t + z.e) (by omega) (by omega)
          have HSf : Aside _ := HSd.out.put htn6 hmap6 (SlOf.later J5.out hdr) (SlOf.later R5.out hdr) hok' hf'
          have y6 : w6.heap[B]? = some (boxB (.slice (some ⟨jb, joff, none⟩) m1 q1) (.slice a2 n2 q2)) := (turned_old htn6 (by omega) (heap_lt HSd.out.head)).trans HSd.out.head
          have yC6 : w6.heap[w2.heap.size]? = some (boxB (.slice b1 m1 d1') (.slice (some ⟨rb, roff, none⟩) (n2 + 1) d2')) := (turned_old htn6 (by omega) (heap_lt (heap_below vC hdr (heap_lt vC)))).trans (heap_below vC hdr (heap_lt vC))
          have zB6 : ∀ i, w6.cell? ⟨B, i, none⟩ = #[Value.slice (some ⟨jb, joff, none⟩) m1 q1, .slice a2 n2 q2][i]? := fun i => Joins.cell_of_block y6 i
          have fB6 : ∀ i, w6.frozen? ⟨B, i, none⟩ = false := fun i => Joins.unfrozen_of_block y6 i
          have zC6 : ∀ i, w6.cell? ⟨w2.heap.size, i, none⟩ = #[Value.slice b1 m1 d1', .slice (some ⟨rb, roff, none⟩) (n2 + 1) d2'][i]? := fun i => Joins.cell_of_block yC6 i
          have hwr : IntKind.i64.wrap (x.t + z.e) = x.t + z.e := by rw [IntKind.wrap_i64]; omega
          have s0 : w5.drew.cell? ⟨w2.heap.size + 1, 0, none⟩ = some (.int .i64 x.j) := zR 0
          have s1 : w5.drew.cell? ⟨B, 0, none⟩ = some (.slice (some ⟨jb, joff, none⟩) m1 q1) := zB 0
          have s2 : w5.drew.cell? ⟨jb, joff + m * 3 + 1, none⟩ = some (.int .i64 z.e) := je
          clear hJ0 vR vX vB vC HSd hmap6 htn6 y6 yC6 HS5 J5 R5 hdr HF hf' hok'
          go_wp2_with fail
          refine wp_region_noPanic ?_
          refine region_L (fun w' => w'.cell? ⟨w2.heap.size + 1, 0, none⟩ = some (.int .i64 x.j) ∧ w'.cell? ⟨B, 0, none⟩ = some (.slice (some ⟨jb, joff, none⟩) m1 q1) ∧ w'.cell? ⟨jb, joff + m * 3 + 1, none⟩ = some (.int .i64 z.e) ∧ (Instr.lookup 41 (.map (some (B + 1))) (.int .i64 x.j) false).run Try.prog w' = .ok (.int .i64 x.t) w') 11 (by kernel_rfl) (⟨s0, s1, s2, hlook2⟩) (fun hHeld => ?_)
          refine anyL_take (i := 0) (v := ?_) rfl (by kernel_rfl) (by kernel_rfl) (by kernel_rfl) (by kernel_rfl) (by kernel_rfl) (fun _ _ _ h => h) (Or.inl ⟨by rfl, ?_⟩) (by assumption) ?_
          rotate_left
          · (intro w0 hSw; (try dsimp only at hSw); go_simp; first | done | with_reducible rfl)
          try simp only [Act.put, List.setIfInBounds_toArray, List.set_cons_zero, List.set_cons_succ]
          refine anyL_take (i := 1) (v := ?_) rfl (by kernel_rfl) (by kernel_rfl) (by kernel_rfl) (by kernel_rfl) (by kernel_rfl) (fun _ _ _ h => h) (Or.inl ⟨by rfl, ?_⟩) (by assumption) ?_
          rotate_left
          · (intro w0 hSw; (try dsimp only at hSw); go_simp; first | done | with_reducible rfl)
          try simp only [Act.put, List.setIfInBounds_toArray, List.set_cons_zero, List.set_cons_succ]
          refine anyL_take (i := 2) (v := ?_) rfl (by kernel_rfl) (by kernel_rfl) (by kernel_rfl) (by kernel_rfl) (by kernel_rfl) (fun _ _ _ h => h) (Or.inl ⟨by rfl, ?_⟩) (by assumption) ?_
          rotate_left
          · (intro w0 hSw; (try dsimp only at hSw); go_simp; first | done | with_reducible rfl)
          try simp only [Act.put, List.setIfInBounds_toArray, List.set_cons_zero, List.set_cons_succ]
          refine anyL_take (i := 3) (v := ?_) rfl (by kernel_rfl) (by kernel_rfl) (by kernel_rfl) (by kernel_rfl) (by kernel_rfl) (fun _ _ _ h => h) (Or.inl ⟨by rfl, ?_⟩) (by assumption) ?_
          rotate_left
          · (intro w0 hSw; (try dsimp only at hSw); go_simp; first | done | with_reducible rfl)
          try simp only [Act.put, List.setIfInBounds_toArray, List.set_cons_zero, List.set_cons_succ]
          refine anyL_take (i := 4) (v := ?_) rfl (by kernel_rfl) (by kernel_rfl) (by kernel_rfl) (by kernel_rfl) (by kernel_rfl) (fun _ _ _ h => h) (Or.inl ⟨by rfl, ?_⟩) (by assumption) ?_
          rotate_left
          · (intro w0 hSw; (try dsimp only at hSw); go_simp; first | done | with_reducible rfl)
          try simp only [Act.put, List.setIfInBounds_toArray, List.set_cons_zero, List.set_cons_succ]
          refine anyL_take (i := 5) (v := ?_) rfl (by kernel_rfl) (by kernel_rfl) (by kernel_rfl) (by kernel_rfl) (by kernel_rfl) (fun _ _ _ h => h) (Or.inl ⟨by rfl, ?_⟩) (by assumption) ?_
          rotate_left
          · (intro w0 hSw; (try dsimp only at hSw); go_simp; first | done | with_reducible rfl)
          try simp only [Act.put, List.setIfInBounds_toArray, List.set_cons_zero, List.set_cons_succ]
          refine anyL_take (i := 6) (v := ?_) rfl (by kernel_rfl) (by kernel_rfl) (by kernel_rfl) (by kernel_rfl) (by kernel_rfl) (fun _ _ _ h => h) (Or.inl ⟨by rfl, ?_⟩) (by assumption) ?_
          rotate_left
          · (intro w0 hSw; (try dsimp only at hSw); go_simp; first | done | with_reducible rfl)
          try simp only [Act.put, List.setIfInBounds_toArray, List.set_cons_zero, List.set_cons_succ]
          refine anyL_take (i := 7) (v := ?_) rfl (by kernel_rfl) (by kernel_rfl) (by kernel_rfl) (by kernel_rfl) (by kernel_rfl) (fun _ _ _ h => h) (Or.inl ⟨by rfl, ?_⟩) (by assumption) ?_
          rotate_left
          · (intro w0 hSw; (try dsimp only at hSw); go_simp; first | done | with_reducible rfl)
          try simp only [Act.put, List.setIfInBounds_toArray, List.set_cons_zero, List.set_cons_succ]
          refine anyL_take (i := 8) (v := ?_) rfl (by kernel_rfl) (by kernel_rfl) (by kernel_rfl) (by kernel_rfl) (by kernel_rfl) (fun _ _ _ h => h) (Or.inl ⟨by rfl, ?_⟩) (by assumption) ?_
          rotate_left
          · (intro w0 hSw; (try dsimp only at hSw); go_simp; first | done | with_reducible rfl)
          try simp only [Act.put, List.setIfInBounds_toArray, List.set_cons_zero, List.set_cons_succ]
          refine anyL_take (i := 9) (v := ?_) rfl (by kernel_rfl) (by kernel_rfl) (by kernel_rfl) (by kernel_rfl) (by kernel_rfl) (fun _ _ _ h => h) (Or.inl ⟨by rfl, ?_⟩) (by assumption) ?_
          rotate_left
          · (intro w0 hSw; (try dsimp only at hSw); go_simp; first | done | with_reducible rfl)
          try simp only [Act.put, List.setIfInBounds_toArray, List.set_cons_zero, List.set_cons_succ]
          refine anyL_take (i := 10) (v := ?_) rfl (by kernel_rfl) (by kernel_rfl) (by kernel_rfl) (by kernel_rfl) (by kernel_rfl) (fun _ _ _ h => h) (Or.inl ⟨by rfl, ?_⟩) (by assumption) ?_
          rotate_left
          · (intro w0 hSw; (try dsimp only at hSw); go_simp; first | done | with_reducible rfl)
          try simp only [Act.put, List.setIfInBounds_toArray, List.set_cons_zero, List.set_cons_succ]
          refine anyL_one (i := 11) (by kernel_rfl) rfl (fun K hK => ?_)
          go_simp
          refine hK.out _ _ (fun h => absurd h (by decide +kernel)) (fun _ => ?_)
          clear hK K
          refine anyL_done (by kernel_rfl) ?_ _
          refine NoPanic.normal ?_
          try simp only [Act.put, List.setIfInBounds_toArray, List.set_cons_zero, List.set_cons_succ]
          clear hHeld s0 s1 s2 hlook2 hlook zR zX zB zC je hrun hwr
          go_wp2
          go_roundw
          case rel => exact ⟨k + 1, n + 1, js', rs', b1, some ⟨rb, roff, none⟩, m1, n2 + 1, d1', d2', turned f x.j (some (x.t + z.e)), by omega, by go_num, by omega, HSf⟩
          case measure => simp [intOf]; omega
        · have e2 : m2 = n2 := by rw [← hm2, hrs, hl2]
          subst e2
          have e1 : m1 = n1 + 1 := by omega
          subst e1
          clear hle
          have hle' : (n1 : Int) < ((n1 + 1 : Nat) : Int) := by omega
          obtain ⟨w4, hrun, hmap4, htn4⟩ := HS3.out.map.put (by omega) x.j x.t (by omega) (by omega)
          have y4 : w4.heap[B]? = some (boxB (.slice a1 n1 q1) (.slice a2 m2 q2)) := (turned_old htn4 (by omega) (heap_lt HS3.out.head)).trans HS3.out.head
          have HSf : Aside _ := HS3.out.put htn4 hmap4 J3.out R3.out hok' hf'
          have yC : w4.heap[w2.heap.size]? = some (boxB (.slice b1 (n1 + 1) d1') (.slice b2 m2 d2')) := (turned_old htn4 (by omega) (by rw [World.size_alloc]; omega)).trans (heap_new _ _)
          have zB4 : ∀ i, w4.cell? ⟨B, i, none⟩ = #[Value.slice a1 n1 q1, .slice a2 m2 q2][i]? := fun i => Joins.cell_of_block y4 i
          have fB4 : ∀ i, w4.frozen? ⟨B, i, none⟩ = false := fun i => Joins.unfrozen_of_block y4 i
          have zC4 : ∀ i, w4.cell? ⟨w2.heap.size, i, none⟩ = #[Value.slice b1 (n1 + 1) d1', .slice b2 m2 d2'][i]? := fun i => Joins.cell_of_block yC i
          clear HS2 J2 R2 HS3 J3 R3 HF hf' hok' hrs hX2 hg3 y4 yC hmap4 htn4
          go_wp2
          go_roundw
          case rel => exact ⟨k + 1, n + 1, js', rs', b1, b2, (n1 + 1), m2, d1', d2', turned f x.j (some x.t), by omega, by go_num, by omega, HSf⟩
          case measure => simp [intOf]; omega
        · have e2 : m2 = n2 := by rw [← hm2, hrs, hl2]
          subst e2
          have hle' : ¬ ((n1 : Int) < (m1 : Int)) := by omega
          have HSf : Aside (Std w _ B n js' rs' (.slice b1 m1 d1') (.slice b2 m2 d2') f) := (HS2.out.store J2.out R2.out hok' hf').later (grew (Below.refl _ _) (boxB (.slice b1 m1 d1') (.slice b2 m2 d2')))
          clear HS2 J2 R2 HS3 J3 R3 HF hf' hok' hrs hX2 hg3
          go_wp2
          go_roundw
          case rel => exact ⟨k + 1, n, js', rs', b1, b2, m1, m2, d1', d2', f, by omega, by go_num, by omega, HSf⟩
          case measure => simp [intOf]; omega
      · have heb : ((app js rs x).2 != 0) = true := by rw [bne_iff_ne]; exact he
        have hBe : Aside (Below w.heap.size w (w2.alloc (boxB (.slice b1 (app js rs x).1.1.length d1') (.slice b2 (app js rs x).1.2.length d2')))) := grew HS2.out.below _
        generalize (app js rs x).2 = d at *
        generalize (app js rs x).1.1.length = m1 at *
        generalize (app js rs x).1.2.length = m2 at *
        clear J2 R2 HS2 HF hl1 hl2
        go_wp2
        go_ret
        exact ⟨rfl, hBe.out⟩
    · have HBe : Aside (Below w.heap.size w wr) := HS.out.below
      clear HS HE HS0 HF zr hhead
      go_wp2
      go_ret
      exact ⟨rfl, HBe.out⟩

end Go.Proofs.Ytjbcfflbfnddeac
