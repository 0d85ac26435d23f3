/- The walk of the law DueLater, under package due's contracts. -/
import Derived.Test.YtmfoonalehmjoabDueF
namespace Go.Proofs.Ytmfoonalehmjoab
open Go.RowKit
open scoped Classical

/-- A number brought within bounds. -/
def atm (k n : Int) : Int := if k.tmod n < 0 then k.tmod n + n else k.tmod n

theorem atm_bound (k n : Int) (h0 : 0 < n) : 0 ≤ atm k n ∧ atm k n < n := by
  have hb := Int.tmod_lt_of_pos k h0
  have hb' : -n < k.tmod n := Int.lt_tmod_of_pos k h0
  unfold atm
  split <;> omega

theorem at_wide (k : Int) (n : Int) (h0 : 0 < n) (h1 : n ≤ 1000000) (w : World) :
    Calls Try.prog 18 #[.int .i64 k, .int .i64 n] w fun e w' => e = .returned (.int .i64 (atm k n)) ∧ w' = w := by
  have hne : (n == 0) = false := by rw [beq_eq_false_iff_ne]; omega
  have hb := Int.tmod_lt_of_pos k h0
  have hb' : -n < k.tmod n := Int.lt_tmod_of_pos k h0
  have hm : Hid (atm k n = if k.tmod n < 0 then k.tmod n + n else k.tmod n) := rfl
  go_enter Try.func18, Try.ntmps18
  go_wp2
  · go_ret
    exact ⟨by rw [hm.out, if_pos (by assumption)]; rfl, rfl⟩
  · go_ret
    exact ⟨by rw [hm.out, if_neg (by omega)]; rfl, rfl⟩

set_option maxRecDepth 100000 in
/-- A slice of jobs up to a place. -/
theorem upto_runJ (a : Option Addr) (n m c : Nat) (h : (m : Int) ≤ c) (w : World) : (Instr.slice 23 (.slice a n c) none (some (.int .i64 m)) none).run Try.prog w = .ok (.slice a m c) w := by
  rw [run_slice_h (ht := Try.underlying23) (h0 := by omega) (h2 := h)]
  have hs : (sizeOf (Try.prog.elem 23)).run Try.prog w = .ok 3 w := by kernel_rfl
  rw [hs]
  cases a with
  | none => simp [Result.andThen, sliced]
  | some ad => simp [Result.andThen, sliced, Addr.add]

theorem upto_jobs {w : World} {a : Option Addr} {n c : Nat} {es : List Jb} (h : JobSl w (.slice a n c) es) (m : Nat) (hm : m ≤ n) : JobSl w (.slice a m c) (es.take m) := by
  have hl := h.len
  have hlt : (es.take m).length = m := by rw [List.length_take]; omega
  obtain ⟨a', c', e, hc⟩ := h
  injection e with e1 _ e3
  refine ⟨a, c, by rw [hlt], ?_⟩
  rcases hc with hc | ⟨b, off, ha, hE⟩
  · left; rw [hlt]; omega
  · exact Or.inr ⟨b, off, e1.trans ha, hE.take m⟩

set_option maxHeartbeats 600000 in
theorem dueLater_in (hK : Dues) (v1 v2 : Value) (js : List Jb) (rs : List Rg) (s0 t0 s t : Int) (w : World) (h1 : JobSl w v1 js) (h2 : RungSl w v2 rs) (hn1 : js.length ≤ most) (hn2 : rs.length ≤ most) (p q : Int) (hp : ∀ W, Calls Try.prog 18 #[.int .i64 s0, .int .i64 100001] W fun e w' => e = .returned (.int .i64 p) ∧ w' = W) (hq : ∀ W, Calls Try.prog 18 #[.int .i64 t0, .int .i64 100001] W fun e w' => e = .returned (.int .i64 q) ∧ w' = W)
    (hs : 0 ≤ s) (hst : s ≤ t) (ht : t ≤ 100000) (hpq : (p ≤ q ∧ s = p ∧ t = q) ∨ (q < p ∧ s = q ∧ t = p)) :
    Calls Try.prog 8 #[.agg #[v1, v2], .int .i64 s0, .int .i64 t0] w fun e w' => e = .returned (.bool true) ∧ Below w.heap.size w w' := by
  have hB0 := grew (Below.refl w.heap.size w) (boxB v1 v2)
  have hx0 := heap_new w (boxB v1 v2)
  have hd1 := fun (W : World) (hb : Below w.heap.size w W) => hK.due v1 v2 js rs s W (h1.later hb) (h2.later hb) hn1 hn2
  have hd2 := fun (W : World) (hb : Below w.heap.size w W) => hK.due v1 v2 js rs t W (h1.later hb) (h2.later hb) hn1 hn2
  have hc1 := fun (W : World) (hb : Below w.heap.size w W) => hK.count v1 v2 js rs s W (h1.later hb) (h2.later hb) hn1 hn2
  have hc2 := fun (W : World) (hb : Below w.heap.size w W) => hK.count v1 v2 js rs t W (h1.later hb) (h2.later hb) hn1 hn2
  have hg := fun (W : World) => counted_any hK W
  obtain ⟨a1, c1, a2, c2, rfl, rfl⟩ := bk_slices h1 h2
  generalize js.length = n1 at *
  generalize rs.length = n2 at *
  clear hK h1 h2 hn1 hn2
  by_cases hok : ckBook js rs = 0
  · have hO := ckBook_zero.1 hok
    have he1 : dueErr js rs s = 0 := by rw [dueErr, if_neg (by simpa using hok), if_neg (by omega)]
    have he2 : dueErr js rs t = 0 := by rw [dueErr, if_neg (by simpa using hok), if_neg (by omega)]
    have hev : ∀ x, x ∈ js → 1 ≤ x.e := fun x hx => (Jb.good (hO.jobs x hx)).2.1.1
    have hcl := count_later hev hst
    have hcn := countOf_len s hev
    obtain ⟨hpre, hlen⟩ := due_prefix hO.srt hst
    have hd6 : (dueOf js t).length ≤ 6 := Nat.le_trans (dueOf_len t js) hO.few
    simp only [he1, he2, if_true] at hd1 hd2 hc1 hc2
    clear he1 he2 hok hO hev
    generalize countOf js s = cs at *
    generalize countOf js t = ct at *
    generalize dueOf js s = ds at *
    generalize dueOf js t = dt at *
    have heq := fun v u W g1 g2 => equalJ v u (dt.take ds.length) ds W g1 g2 (by rw [List.length_take]; omega)
    rw [decide_eq_true hpre] at heq
    have HL : Hid (ds.length ≤ dt.length ∧ (ds.length : Int) ≤ cs ∧ dt.length ≤ 6) := ⟨hlen, hcn, hd6⟩
    clear hlen hcn hd6 hpre
    go_enter Try.func8, Try.ntmps8
    go_wp2_with fail
    refine (hp _).mono ?_
    rintro e w0 ⟨rfl, rfl⟩
    go_wp2_with fail
    refine (hq _).mono ?_
    rintro e w0 ⟨rfl, rfl⟩
    clear hp hq
    have hmn : min p q = s := by omega
    have hmx : max p q = t := by omega
    clear hpq
    go_wp2_with fail
    refine (hd1 _ hB0).mono ?_
    rintro e w1 ⟨u, rfl, J1, hb1, room1⟩
    have hB1 := step_below hB0 hb1
    have hx1 := heap_below hx0 hb1 (heap_lt hx0)
    obtain ⟨a, c, rfl, _⟩ := id J1
    obtain ⟨dl, hdl⟩ : ∃ dl, Hid (ds.length = dl) := ⟨_, rfl⟩
    rw [hdl.out] at J1 room1 ⊢
    replace J1 : Aside (JobSl w1 (.slice a dl c) ds) := J1
    clear hb1 hB0 hx0 hd1
    have z1 : ∀ i, w1.cell? ⟨w.heap.size, i, none⟩ = #[Value.slice a1 n1 c1, .slice a2 n2 c2][i]? := fun i => Joins.cell_of_block hx1 i
    go_wp2_with fail
    refine (hd2 _ hB1).mono ?_
    rintro e w2 ⟨u', rfl, M2, hb2, room2⟩
    have hB2 := step_below hB1 hb2
    have hx2 := heap_below hx1 hb2 (heap_lt hx1)
    obtain ⟨a', c', rfl, _⟩ := id M2
    obtain ⟨dm, hdm⟩ : ∃ dm, Hid (dt.length = dm) := ⟨_, rfl⟩
    rw [hdm.out] at M2 room2 ⊢
    replace M2 : Aside (JobSl w2 (.slice a' dm c') dt) := M2
    have J2 : Aside (JobSl w2 _ ds) := SlOf.later J1.out hb2
    clear hb2 hB1 hx1 hd2 J1 z1
    have z2 : ∀ i, w2.cell? ⟨w.heap.size, i, none⟩ = #[Value.slice a1 n1 c1, .slice a2 n2 c2][i]? := fun i => Joins.cell_of_block hx2 i
    go_wp2_with fail
    refine (hc1 _ hB2).mono ?_
    rintro e w3 ⟨rfl, hb3⟩
    have hB3 := step_below hB2 hb3
    have hx3 := heap_below hx2 hb3 (heap_lt hx2)
    have J3 : Aside (JobSl w3 _ ds) := SlOf.later J2.out hb3
    have M3 : Aside (JobSl w3 _ dt) := SlOf.later M2.out hb3
    clear hb3 hB2 hx2 hc1 J2 M2 z2
    have z3 : ∀ i, w3.cell? ⟨w.heap.size, i, none⟩ = #[Value.slice a1 n1 c1, .slice a2 n2 c2][i]? := fun i => Joins.cell_of_block hx3 i
    go_wp2_with fail
    refine (hc2 _ hB3).mono ?_
    rintro e w4 ⟨rfl, hb4⟩
    have hB4 := step_below hB3 hb4
    have hx4 := heap_below hx3 hb4 (heap_lt hx3)
    have J4 : Aside (JobSl w4 _ ds) := SlOf.later J3.out hb4
    have M4 : Aside (JobSl w4 _ dt) := SlOf.later M3.out hb4
    clear hb4 hB3 hx3 hc2 J3 M3 z3 hx4
    go_wp2_with fail
    refine (hg _).mono ?_
    rintro e w5 ⟨rfl, hb5⟩
    have hB5 := step_below hB4 hb5
    have J5 : Aside (JobSl w5 _ ds) := SlOf.later J4.out hb5
    have M5 : Aside (JobSl w5 _ dt) := SlOf.later M4.out hb5
    obtain ⟨l1, l2, l3⟩ := HL.out
    rw [hdl.out, hdm.out] at l1
    rw [hdl.out] at l2 heq
    rw [hdm.out] at l3
    have hroom : dm ≤ c' := by
      obtain ⟨_, _, _, er, er2⟩ := room2
      injection er with _ er3 er4
      omega
    clear room1 room2
    have hcut := fun W => upto_runJ a' dm dl c' (by omega) W
    clear hb5 hB4 hg J4 M4 HL
    go_wp2_with fail
    have g1 : JobSl w5 (.slice a' dl c') (dt.take dl) := upto_jobs M5.out dl (by omega)
    have g2 : JobSl w5 (.slice a dl c) ds := J5.out
    refine (heq (.slice a' dl c') (.slice a dl c) w5 g1 g2).mono ?_
    rintro e w6 ⟨rfl, hb6⟩
    have hB6 := step_below hB5 hb6
    go_wp2
    go_ret
    exact ⟨rfl, hB6⟩
  · have he1 : dueErr js rs s = ckBook js rs := by rw [dueErr, if_pos hok]
    have he2 : dueErr js rs t = ckBook js rs := by rw [dueErr, if_pos hok]
    simp only [he1, he2, if_neg hok] at hd1 hd2 hc1 hc2
    have hne : (ckBook js rs != 0) = true := by rw [bne_iff_ne]; exact hok
    clear he1 he2 hok
    generalize ckBook js rs = er at *
    go_enter Try.func8, Try.ntmps8
    go_wp2_with fail
    refine (hp _).mono ?_
    rintro e w0 ⟨rfl, rfl⟩
    go_wp2_with fail
    refine (hq _).mono ?_
    rintro e w0 ⟨rfl, rfl⟩
    clear hp hq
    have hmn : min p q = s := by omega
    have hmx : max p q = t := by omega
    clear hpq
    go_wp2_with fail
    refine (hd1 _ hB0).mono ?_
    rintro e w1 ⟨u, rfl, J1, hb1, room1⟩
    have hB1 := step_below hB0 hb1
    have hx1 := heap_below hx0 hb1 (heap_lt hx0)
    obtain ⟨a, c, rfl, _⟩ := id J1
    clear hb1 hB0 hx0 hd1
    have z1 : ∀ i, w1.cell? ⟨w.heap.size, i, none⟩ = #[Value.slice a1 n1 c1, .slice a2 n2 c2][i]? := fun i => Joins.cell_of_block hx1 i
    go_wp2_with fail
    refine (hd2 _ hB1).mono ?_
    rintro e w2 ⟨u', rfl, M2, hb2, room2⟩
    have hB2 := step_below hB1 hb2
    have hx2 := heap_below hx1 hb2 (heap_lt hx1)
    obtain ⟨a', c', rfl, _⟩ := id M2
    clear hb2 hB1 hx1 hd2 z1
    have z2 : ∀ i, w2.cell? ⟨w.heap.size, i, none⟩ = #[Value.slice a1 n1 c1, .slice a2 n2 c2][i]? := fun i => Joins.cell_of_block hx2 i
    go_wp2_with fail
    refine (hc1 _ hB2).mono ?_
    rintro e w3 ⟨rfl, hb3⟩
    have hB3 := step_below hB2 hb3
    have hx3 := heap_below hx2 hb3 (heap_lt hx2)
    clear hb3 hB2 hx2 hc1 z2
    have z3 : ∀ i, w3.cell? ⟨w.heap.size, i, none⟩ = #[Value.slice a1 n1 c1, .slice a2 n2 c2][i]? := fun i => Joins.cell_of_block hx3 i
    go_wp2_with fail
    refine (hc2 _ hB3).mono ?_
    rintro e w4 ⟨rfl, hb4⟩
    have hB4 := step_below hB3 hb4
    have hx4 := heap_below hx3 hb4 (heap_lt hx3)
    clear hb4 hB3 hx3 hc2 z3 hx4
    go_wp2_with fail
    refine (hg _).mono ?_
    rintro e w5 ⟨rfl, hb5⟩
    have hB5 := step_below hB4 hb5
    clear hb5 hB4
    go_wp2_with fail
    refine (hg _).mono ?_
    rintro e w6 ⟨rfl, hb6⟩
    have hB6 := step_below hB5 hb6
    go_wp2
    go_ret
    exact ⟨rfl, hB6⟩

theorem dueLater_any (hK : Dues) (v1 v2 : Value) (js : List Jb) (rs : List Rg) (s t : Int) (w : World) (h1 : JobSl w v1 js) (h2 : RungSl w v2 rs) (hn1 : js.length ≤ most) (hn2 : rs.length ≤ most) :
    Calls Try.prog 8 #[.agg #[v1, v2], .int .i64 s, .int .i64 t] w fun e w' => e = .returned (.bool true) ∧ Below w.heap.size w w' := by
  have b1 := atm_bound s 100001 (by omega)
  have b2 := atm_bound t 100001 (by omega)
  refine dueLater_in hK v1 v2 js rs s t (min (atm s 100001) (atm t 100001)) (max (atm s 100001) (atm t 100001)) w h1 h2 hn1 hn2 (atm s 100001) (atm t 100001) (fun W => at_wide s 100001 (by omega) (by omega) W) (fun W => at_wide t 100001 (by omega) (by omega) W) (by omega) (by omega) (by omega) (by omega)

end Go.Proofs.Ytmfoonalehmjoab
