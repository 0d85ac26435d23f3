/- What the laws on what is due ask of package due; the walks of the reference's NextOf and CountTo. -/
import Derived.Test.YtmfoonalehmjoabDueC
namespace Go.Proofs.Ytmfoonalehmjoab
open Go.RowKit

/-- What is wrong with a book and a time. -/
def dueErr (js : List Jb) (rs : List Rg) (t : Int) : Int := if ckBook js rs ≠ 0 then ckBook js rs else if t < 0 ∨ 100000 < t then 3 else 0

/-- Package due's three functions, at every book and time; package book's Apply. -/
structure Dues : Prop where
  due : ∀ (v1 v2 : Value) (js : List Jb) (rs : List Rg) (t : Int) (W : World), JobSl W v1 js → RungSl W v2 rs → js.length ≤ most → rs.length ≤ most →
    Calls Try.prog 19 #[.agg #[v1, v2], .int .i64 t] W fun e w' => ∃ u, e = .returned (.tuple #[u, .int .i64 (dueErr js rs t)]) ∧ JobSl w' u (if dueErr js rs t = 0 then dueOf js t else []) ∧ Below W.heap.size W w' ∧ Roomy u
  count : ∀ (v1 v2 : Value) (js : List Jb) (rs : List Rg) (t : Int) (W : World), JobSl W v1 js → RungSl W v2 rs → js.length ≤ most → rs.length ≤ most →
    Calls Try.prog 20 #[.agg #[v1, v2], .int .i64 t] W fun e w' => e = .returned (.tuple #[.int .i64 (if dueErr js rs t = 0 then countOf js t else 0), .int .i64 (dueErr js rs t)]) ∧ Below W.heap.size W w'
  when_ : ∀ (v1 v2 : Value) (js : List Jb) (rs : List Rg) (W : World), JobSl W v1 js → RungSl W v2 rs → js.length ≤ most → rs.length ≤ most →
    Calls Try.prog 21 #[.agg #[v1, v2]] W fun e w' => e = .returned (.tuple #[.int .i64 (if ckBook js rs = 0 then whenOf js else 0), .int .i64 (ckBook js rs)]) ∧ Below W.heap.size W w'
  apply : ∀ (v1 v2 : Value) (js : List Jb) (rs : List Rg) (x : En) (W : World), JobSl W v1 js → RungSl W v2 rs → js.length ≤ most → rs.length ≤ most →
    Answers 13 #[.agg #[v1, v2], x.val] W (app js rs x)

theorem whenOf_ge : ∀ (js : List Jb), (∀ x, x ∈ js → 0 ≤ x.n) → -1 ≤ whenOf js
  | [], _ => by simp [whenOf]
  | x :: r, h => by
    have h1 := h x (by simp)
    have h2 := whenOf_ge r (fun y hy => h y (List.mem_cons_of_mem _ hy))
    rw [whenOf]
    split <;> omega

theorem min_swap (a x y : Int) (ha : -1 ≤ a) (hx : 0 ≤ x) (hy : 0 ≤ y) :
    (if (if a = -1 ∨ x < a then x else a) = -1 ∨ y < (if a = -1 ∨ x < a then x else a) then y else (if a = -1 ∨ x < a then x else a)) =
      if (if a = -1 ∨ y < a then y else a) = -1 ∨ x < (if a = -1 ∨ y < a then y else a) then x else (if a = -1 ∨ y < a then y else a) := by
  by_cases h1 : a = -1 ∨ x < a <;> by_cases h2 : a = -1 ∨ y < a <;> simp only [h1, h2, if_true, if_false] <;> (repeat' split) <;> omega

theorem whenOf_snoc (x : Jb) (hx : 0 ≤ x.n) : ∀ (js : List Jb), (∀ y, y ∈ js → 0 ≤ y.n) → whenOf (js ++ [x]) = if whenOf js = -1 ∨ x.n < whenOf js then x.n else whenOf js
  | [], _ => by simp [whenOf]
  | y :: r, h => by
    have h1 := h y (by simp)
    have hr := fun z hz => h z (List.mem_cons_of_mem y hz)
    have h2 := whenOf_ge r hr
    have ih := whenOf_snoc x hx r hr
    rw [List.cons_append, whenOf, whenOf, ih]
    exact min_swap (whenOf r) x.n y.n h2 hx h1

set_option maxHeartbeats 2000000 in
/-- The reference's NextOf, at a right book. -/
theorem ref_next (v1 v2 : Value) (js : List Jb) (rs : List Rg) (w : World) (h1 : JobSl w v1 js) (h2 : RungSl w v2 rs) (hok : Ok js rs) :
    Calls Try.prog 24 #[.agg #[v1, v2]] w fun e w' => e = .returned (.int .i64 (whenOf js)) ∧ Below w.heap.size w w' := by
  have H1 : Hid (JobSl w v1 js) := h1
  obtain ⟨a1, c1, rfl, _⟩ := h1
  obtain ⟨a2, c2, rfl, _⟩ := h2
  have hn : js.length ≤ 6 := hok.few
  have HG : Hid (∀ x, x ∈ js → 0 ≤ x.n ∧ x.n ≤ 100100) := fun x hx => (Jb.good (hok.jobs x hx)).2.2
  clear hok
  generalize rs.length = n2 at *
  obtain ⟨n1, hn1⟩ : ∃ n1, js.length = n1 := ⟨_, rfl⟩
  have L1 : Hid (js.length = n1) := hn1
  rw [hn1] at H1 hn ⊢
  clear hn1
  go_enter Try.func24, Try.ntmps24
  go_wp2
  go_loopw [3, 9] (fun l i wr => ∃ (k : Nat) (lv : Int), k ≤ n1 ∧ i = .int .i64 k ∧ l = .int .i64 lv ∧ -1 ≤ lv ∧ lv ≤ 100100 ∧ Below w.heap.size w wr ∧ Hid (whenOf (js.take k) = lv)) (fun _ i _ => n1 - (intOf i).toNat)
  case atStart => exact ⟨0, -1, Nat.zero_le _, rfl, rfl, by omega, by omega, grew (Below.refl _ _) _, rfl⟩
  case round =>
    obtain ⟨k, lv, hk, rfl, rfl, hl1, hl2, hB, hst⟩ := hrel
    by_cases hlt : k < n1
    · obtain ⟨x, hx⟩ : ∃ x, js[k]? = some x := ⟨js[k]'(by have := L1.out; omega), List.getElem?_eq_getElem _⟩
      obtain ⟨b, off, rfl, hE0⟩ := H1.out.at (by omega)
      have hE := hE0.later hB
      have c0 : wr.cell? ⟨b, off + k * 3, none⟩ = some (.int .i64 x.i) := hE k x hx 0 _ rfl
      have c1 : wr.cell? ⟨b, off + k * 3 + 1, none⟩ = some (.int .i64 x.e) := hE k x hx 1 _ rfl
      have c2 : wr.cell? ⟨b, off + k * 3 + 2, none⟩ = some (.int .i64 x.n) := hE k x hx 2 _ rfl
      obtain ⟨g0, g1⟩ := HG.out x (List.mem_of_getElem? hx)
      have HS : Hid (whenOf (js.take (k + 1)) = if lv = -1 ∨ x.n < lv then x.n else lv) := by
        have := whenOf_snoc x g0 (js.take k) (fun y hy => (HG.out y (List.mem_of_mem_take hy)).1)
        rw [Hid, List.take_add_one, hx, ← hst.out]
        exact this
      clear hE hE0 hx hst H1
      by_cases hm : lv = -1
      · subst hm
        have HF : Hid (whenOf (js.take (k + 1)) = x.n) := by rw [Hid, HS.out, if_pos (Or.inl rfl)]
        clear HS
        go_wp2
        go_roundw
        case rel => exact ⟨k + 1, x.n, by omega, by go_num, rfl, by omega, by omega, grew hB _, HF.out⟩
        case measure => simp [intOf]; omega
      · have hmb : (lv == -1) = false := by rw [beq_eq_false_iff_ne]; exact hm
        by_cases hgt : x.n < lv
        · have HF : Hid (whenOf (js.take (k + 1)) = x.n) := by rw [Hid, HS.out, if_pos (Or.inr hgt)]
          clear HS
          go_wp2
          go_roundw
          case rel => exact ⟨k + 1, x.n, by omega, by go_num, rfl, by omega, by omega, grew hB _, HF.out⟩
          case measure => simp [intOf]; omega
        · have HF : Hid (whenOf (js.take (k + 1)) = lv) := by rw [Hid, HS.out, if_neg (by omega)]
          clear HS
          go_wp2
          go_roundw
          case rel => exact ⟨k + 1, lv, by omega, by go_num, rfl, by omega, by omega, grew hB _, HF.out⟩
          case measure => simp [intOf]; omega
    · have hkn : k = n1 := by omega
      subst hkn
      have HF : Hid (whenOf js = lv) := by
        have h := hst.out
        rwa [List.take_of_length_le (by have := L1.out; omega)] at h
      clear hst H1
      go_wp2
      go_ret
      exact ⟨by rw [HF.out]; rfl, hB⟩

theorem countOf_snoc (x : Jb) (js : List Jb) (t : Int) : countOf (js ++ [x]) t = countOf js t + cnt1 x t := by
  rw [countOf_append]
  simp [countOf]

theorem cnt1_le {x : Jb} {t : Int} (hn : 0 ≤ x.n) (ht : t ≤ 100000) : cnt1 x t ≤ 100001 := by
  unfold cnt1
  split
  · omega
  · have h1 : (t - x.n) / x.e ≤ t - x.n := by
      by_cases h0 : 0 ≤ t - x.n
      · exact Int.ediv_le_self _ h0
      · omega
    omega

set_option maxHeartbeats 4000000 in
/-- The reference's CountTo, at a right book and time. -/
theorem ref_count (v1 v2 : Value) (js : List Jb) (rs : List Rg) (t : Int) (w : World) (h1 : JobSl w v1 js) (h2 : RungSl w v2 rs) (hok : Ok js rs) (ht0 : 0 ≤ t) (ht1 : t ≤ 100000) :
    Calls Try.prog 27 #[.agg #[v1, v2], .int .i64 t] w fun e w' => e = .returned (.int .i64 (countOf js t)) ∧ Below w.heap.size w w' := by
  have H1 : Hid (JobSl w v1 js) := h1
  obtain ⟨a1, c1, rfl, _⟩ := h1
  obtain ⟨a2, c2, rfl, _⟩ := h2
  have hn : js.length ≤ 6 := hok.few
  have HG : Hid (∀ x, x ∈ js → (1 ≤ x.e ∧ x.e ≤ 100) ∧ 0 ≤ x.n ∧ x.n ≤ 100100) := fun x hx => (Jb.good (hok.jobs x hx)).2
  clear hok
  generalize rs.length = n2 at *
  obtain ⟨n1, hn1⟩ : ∃ n1, js.length = n1 := ⟨_, rfl⟩
  have L1 : Hid (js.length = n1) := hn1
  rw [hn1] at H1 hn ⊢
  clear hn1
  go_enter Try.func27, Try.ntmps27
  go_wp2
  go_loopw [5, 12] (fun l i wr => ∃ (k : Nat) (c : Int), k ≤ n1 ∧ i = .int .i64 k ∧ l = .int .i64 c ∧ 0 ≤ c ∧ c ≤ 100001 * k ∧ Below w.heap.size w wr ∧ Hid (countOf (js.take k) t = c)) (fun _ i _ => n1 - (intOf i).toNat)
  case atStart => exact ⟨0, 0, Nat.zero_le _, rfl, rfl, by omega, by omega, grew (Below.refl _ _) _, rfl⟩
  case round =>
    obtain ⟨k, c, hk, rfl, rfl, hl1, hl2, hB, hst⟩ := hrel
    by_cases hlt : k < n1
    · obtain ⟨x, hx⟩ : ∃ x, js[k]? = some x := ⟨js[k]'(by have := L1.out; omega), List.getElem?_eq_getElem _⟩
      obtain ⟨b, off, rfl, hE0⟩ := H1.out.at (by omega)
      have hE := hE0.later hB
      have c0 : wr.cell? ⟨b, off + k * 3, none⟩ = some (.int .i64 x.i) := hE k x hx 0 _ rfl
      have c1 : wr.cell? ⟨b, off + k * 3 + 1, none⟩ = some (.int .i64 x.e) := hE k x hx 1 _ rfl
      have c2 : wr.cell? ⟨b, off + k * 3 + 2, none⟩ = some (.int .i64 x.n) := hE k x hx 2 _ rfl
      obtain ⟨⟨g0, g1⟩, g2, g3⟩ := HG.out x (List.mem_of_getElem? hx)
      have HS : Hid (countOf (js.take (k + 1)) t = c + cnt1 x t) := by
        rw [Hid, List.take_add_one, hx, ← hst.out]
        exact countOf_snoc x _ t
      have hc0 := cnt1_nonneg (t := t) g0
      have hc1 := cnt1_le g2 ht1
      have HU : Hid (∀ q : Nat, (q : Int) < cnt1 x t ↔ x.n + q * x.e ≤ t) := fun q => cnt1_up g0 t q
      have hB' := grew hB (boxJ x)
      clear hE hE0 hx hst H1
      generalize cnt1 x t = m at *
      go_wp2
      go_loopg [5, 8] m.toNat (fun gg s5 s8 wi => ∃ (q : Nat) (T : Int), (q : Int) ≤ m ∧ m.toNat - q ≤ gg ∧ s5 = .int .i64 (c + q) ∧ s8 = .int .i64 T ∧ 0 ≤ T ∧ T ≤ 100100 ∧ Hid (T = x.n + q * x.e) ∧ wi = wr.alloc (boxJ x))
      case atStart => exact ⟨0, x.n, by omega, by omega, by simp, rfl, g2, g3, by simp [Hid], rfl⟩
      case round =>
        obtain ⟨q, T, hq, hgg, rfl, rfl, hT0, hT1, HT, rfl⟩ := hrel
        by_cases hqm : (q : Int) < m
        · have hTt : T ≤ t := by rw [HT.out]; exact (HU.out q).1 hqm
          have HN : Hid (T + x.e = x.n + ((q + 1 : Nat) : Int) * x.e) := by
            rw [Hid, HT.out, Int.natCast_add, Int.add_mul]; simp; omega
          clear HT HU
          go_wp2
          go_roundg (m.toNat - (q + 1))
          case measure => omega
          case rel => exact ⟨q + 1, T + x.e, by omega, by omega, by go_num, rfl, by omega, by omega, HN.out, rfl⟩
        · have hqe : (q : Int) = m := by omega
          have hTt : ¬ T ≤ t := by rw [HT.out]; exact fun h => hqm ((HU.out q).2 h)
          clear HT HU
          go_wp2
          go_roundw
          case rel => exact ⟨k + 1, c + q, by omega, by go_num, rfl, by omega, by omega, hB', by rw [Hid, HS.out, hqe]⟩
          case measure => simp [intOf]; omega
    · have hkn : k = n1 := by omega
      subst hkn
      have HF : Hid (countOf js t = c) := by
        have h := hst.out
        rwa [List.take_of_length_le (by have := L1.out; omega)] at h
      clear hst H1
      go_wp2
      go_ret
      exact ⟨by rw [HF.out]; rfl, hB⟩

end Go.Proofs.Ytmfoonalehmjoab
