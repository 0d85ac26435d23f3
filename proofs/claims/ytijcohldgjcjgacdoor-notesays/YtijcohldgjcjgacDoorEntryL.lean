/- Print at every entry; what is printed is read, what is read is printed as it was. -/
import Derived.Test.YtijcohldgjcjgacDoorEntryK
namespace Go.Proofs.YtijcohldgjcjgacDoor
open Go.RowKit

/-- What a text of this kind begins with. -/
def nameL (k : Int) : List UInt8 := if k = 0 then [106, 117, 110, 107] else if k = 1 then [112, 117, 116] else if k = 2 then [100, 114, 111, 112] else [114, 105, 110, 103]

def En.n0 (e : En) : Int := num0 e.k e.j
def En.n1 (e : En) : Int := num1 e.k e.v e.t
def En.n2 (e : En) : Int := num2 e.k e.t e.c
/-- The words of an entry. -/
def En.words (e : En) : List (List UInt8) := [nameL e.k, Lib.itoa e.n0, Lib.itoa e.n1, Lib.itoa e.n2].take (1 + cntOf e.k)
def En.txt (e : En) : List UInt8 := Lib.join e.words [32]
/-- What Print writes. -/
def En.ptx (e : En) : List UInt8 := if e.chk = 0 then e.txt else []

theorem chk_zero {e : En} (h : e.chk = 0) : 0 ≤ e.k ∧ e.k ≤ 3 ∧ inR e.j e.v e.t e.c = true ∧ lost e.k e.j e.v e.t e.c = false ∧ ¬ (e.k = 1 ∧ e.v = 0) := by
  unfold En.chk chk at h
  split at h
  · cases h
  rename_i h1
  split at h
  · cases h
  rename_i h2
  split at h
  · cases h
  rename_i h3
  split at h
  · cases h
  rename_i h4
  exact ⟨by omega, by omega, by simpa using h2, by simpa using h3, h4⟩

theorem nums_range {e : En} (h : e.chk = 0) : (0 ≤ e.n0 ∧ e.n0 ≤ 100000) ∧ (0 ≤ e.n1 ∧ e.n1 ≤ 100000) ∧ (0 ≤ e.n2 ∧ e.n2 ≤ 100000) := by
  obtain ⟨_, _, hr, _, _⟩ := chk_zero h
  have hr := of_decide_eq_true hr
  unfold En.n0 En.n1 En.n2 num0 num1 num2
  refine ⟨?_, ?_, ?_⟩
  · split <;> omega
  · split
    · omega
    · split <;> omega
  · split
    · omega
    · split <;> omega

theorem Laid.nam {W : World} (h : Laid W) (k : Int) (h0 : 0 ≤ k) (h3 : k ≤ 3) : W.cell? ⟨0, k.toNat, none⟩ = some (.string ⟨(nameL k).toArray⟩) := by
  obtain ⟨c0, c1, c2, c3⟩ := h.name
  have : k = 0 ∨ k = 1 ∨ k = 2 ∨ k = 3 := by omega
  rcases this with rfl | rfl | rfl | rfl
  · exact c0
  · exact c1
  · exact c2
  · exact c3

theorem cnt_le (k : Int) : cntOf k ≤ 3 := by
  unfold cntOf
  split
  · omega
  split
  · omega
  split <;> omega

theorem nameL_len (k : Int) : (nameL k).length ≤ 30 := by
  unfold nameL
  split
  · simp
  split
  · simp
  split <;> simp

/-- Print, at every entry. -/
theorem print_any (e : En) (w : World) (hL : Laid w) :
    Calls Tryd.prog 12 #[e.val] w fun r w' => r = .returned (.tuple #[.string ⟨e.ptx.toArray⟩, .int .i64 e.chk]) ∧ Below w.heap.size w w' := by
  by_cases h : e.chk = 0
  · obtain ⟨h0, h3, _, _, _⟩ := chk_zero h
    obtain ⟨b0, b1, b2⟩ := nums_range h
    have hp := print_ok e.k e.j e.v e.t e.c ⟨(nameL e.k).toArray⟩ (cntOf e.k) e.n0 e.n1 e.n2 w hL h0 h3 (cnt_le _) (nameL_len _) h rfl rfl rfl b0 b1 b2 (fun W hW => hW.nam e.k h0 h3) (fun W hW => hW.cnt e.k h0 h3)
    rw [En.ptx, if_pos h, h]
    exact hp
  · rw [En.ptx, if_neg h]
    exact print_bad e.k e.j e.v e.t e.c w (by rw [bne_iff_ne]; exact h)

theorem words_no_sp {e : En} (h : e.chk = 0) : ∀ x, x ∈ e.words → (32 : UInt8) ∉ x := by
  obtain ⟨b0, b1, b2⟩ := nums_range h
  intro x hx
  have hx := List.mem_of_mem_take hx
  simp only [List.mem_cons, List.not_mem_nil, or_false] at hx
  rcases hx with rfl | rfl | rfl | rfl
  · unfold nameL
    split
    · decide
    split
    · decide
    split <;> decide
  · exact itoa_no_sp _ b0.1
  · exact itoa_no_sp _ b1.1
  · exact itoa_no_sp _ b2.1

theorem words_len (e : En) : e.words.length = 1 + cntOf e.k := by
  have := cnt_le e.k
  unfold En.words
  rw [List.length_take]
  simp
  omega

theorem spl_txt {e : En} (h : e.chk = 0) : spl 4 e.txt = some e.words := by
  have hl := words_len e
  have := cnt_le e.k
  exact spl_join 4 e.words (fun e => by rw [e] at hl; simp at hl; omega) (by omega) (words_no_sp h)

theorem kindOf_nameL (k : Int) (h0 : 0 ≤ k) (h3 : k ≤ 3) : kindOf (nameL k) = k := by
  have : k = 0 ∨ k = 1 ∨ k = 2 ∨ k = 3 := by omega
  rcases this with rfl | rfl | rfl | rfl <;> decide

theorem nameL_kindOf (l : List UInt8) (h : 0 ≤ kindOf l) : nameL (kindOf l) = l := by
  unfold kindOf at h ⊢
  split
  · rename_i e; rw [e]; rfl
  split
  · rename_i e; rw [e]; rfl
  split
  · rename_i e; rw [e]; rfl
  split
  · rename_i e; rw [e]; rfl
  · simp_all

theorem words_at {e : En} (h : e.chk = 0) : e.words.getD 0 [] = nameL e.k ∧ nAt e.words 1 = some e.n0 ∧ nAt e.words 2 = some e.n1 ∧ nAt e.words 3 = some e.n2 := by
  obtain ⟨b0, b1, b2⟩ := nums_range h
  obtain ⟨h0, h3, _, _, _⟩ := chk_zero h
  have r0 := numOf_itoa e.n0 b0.1 (by omega)
  have r1 := numOf_itoa e.n1 b1.1 (by omega)
  have r2 := numOf_itoa e.n2 b2.1 (by omega)
  have hk : e.k = 0 ∨ e.k = 1 ∨ e.k = 2 ∨ e.k = 3 := by omega
  have z0 : e.k = 0 → e.n0 = 0 := fun h => by simp [En.n0, num0, h]
  have z1 : e.k = 0 ∨ e.k = 2 → e.n1 = 0 := fun h => by rcases h with h | h <;> simp [En.n1, num1, h]
  have z2 : e.k = 0 ∨ e.k = 2 → e.n2 = 0 := fun h => by rcases h with h | h <;> simp [En.n2, num2, h]
  unfold En.words
  rcases hk with hk | hk | hk | hk
  · rw [show cntOf e.k = 0 by rw [hk]; rfl, z0 hk, z1 (Or.inl hk), z2 (Or.inl hk)]
    exact ⟨rfl, rfl, rfl, rfl⟩
  · rw [show cntOf e.k = 3 by rw [hk]; rfl]
    exact ⟨rfl, r0, r1, r2⟩
  · rw [show cntOf e.k = 1 by rw [hk]; rfl, z1 (Or.inr hk), z2 (Or.inr hk)]
    exact ⟨rfl, r0, rfl, rfl⟩
  · rw [show cntOf e.k = 3 by rw [hk]; rfl]
    exact ⟨rfl, r0, r1, r2⟩

theorem txt_len (e : En) (h : e.chk = 0) : e.txt.length ≤ 200 := by
  obtain ⟨b0, b1, b2⟩ := nums_range h
  have l0 := Lib.itoa_length_le e.n0 (by omega) (by omega)
  have l1 := Lib.itoa_length_le e.n1 (by omega) (by omega)
  have l2 := Lib.itoa_length_le e.n2 (by omega) (by omega)
  have ln := nameL_len e.k
  have hc := cnt_le e.k
  unfold En.txt En.words
  generalize cntOf e.k = n at hc ⊢
  have hn' : n = 0 ∨ n = 1 ∨ n = 2 ∨ n = 3 := by omega
  rcases hn' with rfl | rfl | rfl | rfl
  all_goals
    simp only [List.take, Lib.join_cons, Lib.joinTail, List.map_cons, List.map_nil, List.flatten_cons, List.flatten_nil, List.length_append, List.length_cons, List.length_nil, List.nil_append, List.cons_append]
    omega

/-- What is printed is read. -/
theorem prs_txt {e : En} (h : e.chk = 0) : prs e.txt = (e, 0) := by
  obtain ⟨h0, h3, _, hl, _⟩ := chk_zero h
  obtain ⟨w0, w1, w2, w3⟩ := words_at h
  have hr : rd e.txt = some (e.k, e.n0, e.n1, e.n2) := by
    rw [rd, spl_txt h]
    exact rdW_some (by rw [w0]; exact kindOf_nameL _ h0 h3) h0 (words_len e) w1 w2 w3
  have he : rdEn (e.k, e.n0, e.n1, e.n2) = e := by
    obtain ⟨_, u1, u2, u3, u4⟩ := unlike_false hl
    cases e
    simp only [rdEn, En.n0, En.n1, En.n2] at *
    simp only [u1, u2, u3, u4]
  have hlen := txt_len e h
  rw [prs, if_neg (by omega), hr]
  simp only [he, h, if_true]

/-- What is read is right, and is printed as it was. -/
theorem txt_prs {l : List UInt8} (h : (prs l).2 = 0) : (prs l).1.chk = 0 ∧ (prs l).1.txt = l := by
  unfold prs at h ⊢
  split at h
  · cases h
  rename_i hlen
  rw [if_neg hlen]
  cases hr : rd l with
  | none => rw [hr] at h; cases h
  | some r =>
    rw [hr] at h
    simp only at h ⊢
    split at h
    case isFalse h0 => exact absurd h h0
    rename_i h0
    rw [if_pos h0]
    refine ⟨h0, ?_⟩
    obtain ⟨ws, hs, hw⟩ := Option.bind_eq_some_iff.1 hr
    have hj := join_spl 4 l ws hs
    unfold rdW at hw
    split at hw
    · cases hw
    rename_i hc
    obtain ⟨a, ha, hw⟩ := Option.bind_eq_some_iff.1 hw
    obtain ⟨b, hb, hw⟩ := Option.bind_eq_some_iff.1 hw
    obtain ⟨c, hc', hw⟩ := Option.bind_eq_some_iff.1 hw
    cases hw
    have hkr := kindOf_range (ws.getD 0 [])
    have hn := nameL_kindOf (ws.getD 0 []) (by omega)
    have hlen : ws.length = 1 + cntOf (kindOf (ws.getD 0 [])) := by omega
    generalize hk : kindOf (ws.getD 0 []) = k at *
    rw [← hj]
    unfold En.txt
    congr 1
    unfold En.words En.n0 En.n1 En.n2 rdEn
    simp only
    have hk' : k = 0 ∨ k = 1 ∨ k = 2 ∨ k = 3 := by omega
    rcases hk' with rfl | rfl | rfl | rfl
    · match ws, hlen with
      | [x], _ => exact congrArg (fun y => [y]) hn
    · match ws, hlen with
      | [x, y, z, u], _ =>
        have ea := itoa_numOf _ _ ha
        have eb := itoa_numOf _ _ hb
        have ec := itoa_numOf _ _ hc'
        simp only [bJob, bEvery, bTime, num0, num1, num2, if_true, true_or]
        show [_, _, _, _] = _
        rw [ea, eb, ec, hn]; rfl
    · match ws, hlen with
      | [x, y], _ =>
        have ea := itoa_numOf _ _ ha
        show [_, _] = _
        rw [hn]
        show [_, Lib.itoa a] = _
        rw [ea]; rfl
    · match ws, hlen with
      | [x, y, z, u], _ =>
        have ea := itoa_numOf _ _ ha
        have eb := itoa_numOf _ _ hb
        have ec := itoa_numOf _ _ hc'
        show [_, Lib.itoa a, Lib.itoa b, Lib.itoa c] = _
        rw [ea, eb, ec, hn]; rfl

end Go.Proofs.YtijcohldgjcjgacDoor
