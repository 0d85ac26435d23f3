/- A disk of right records; plain facts for UnitOnce. -/
import Derived.Test.YtnmapehbcccbhadDoorDiskA
import Derived.Test.YtnmapehbcccbhadDoorUnitA
namespace Go.Proofs.YtnmapehbcccbhadDoor
open Go.RowKit

theorem rc_len300 {r : Rc} (h : r.chk = 0) : r.txt.length ≤ 300 := by
  unfold Rc.txt
  by_cases hk : r.k = 2
  · rw [if_pos hk]
    have hp := (Rc.seal h hk).1
    have hlen := Lib.itoa_length_le r.p (by omega) (by omega)
    simp [sealL]
    omega
  · rw [if_neg hk]
    obtain ⟨_, ha, _, he⟩ := Rc.write h hk
    have hlen := Lib.itoa_length_le r.a (by omega) (by omega)
    have hlen2 := txt_len r.e he
    simp
    omega

theorem rtxt_len : ∀ (rs : List Rc), (∀ c, c ∈ rs → c.chk = 0) → (rtxt rs).length ≤ rs.length * 301
  | [], _ => by simp [rtxt]
  | c :: r, h => by
    have h1 := rc_len300 (h c (by simp))
    have h2 := rtxt_len r (fun x hx => h x (List.mem_cons_of_mem _ hx))
    rw [rtxt_cons, List.length_append, List.length_cons, List.length_cons]
    omega

theorem good_snoc {rs : List Rc} {r : Rc} (h : ∀ c, c ∈ rs → c.chk = 0) (hr : r.chk = 0) : ∀ c, c ∈ rs ++ [r] → c.chk = 0 := fun c hc => by
  rcases List.mem_append.1 hc with hc | hc
  · exact h c hc
  · obtain rfl : c = r := by simpa using hc
    exact hr

theorem rows_ck {rs : List Rc} (h : ∀ c, c ∈ rs → c.chk = 0) (hl : rs.length ≤ 80) (t : List UInt8) (ht : t.length ≤ 301) : ckDisk (rtxt rs) t = 0 := by
  have h1 := rtxt_len rs h
  exact ckDisk_zero.2 ⟨by omega, by rw [lines_all h (by omega)]⟩

/-- A record put on a disk of right records, synced: it is there. -/
theorem once_put {rs : List Rc} {r : Rc} (h : ∀ c, c ∈ rs → c.chk = 0) (hr : r.chk = 0) (hl : rs.length < 80) : dput (rtxt rs) [] r = ((rtxt rs, r.txt ++ [10]), 0) := by
  have h1 := rtxt_len rs h
  have h2 := rc_len300 hr
  rw [dput, if_neg (by rw [rows_ck h (by omega) [] (by simp)]; simp), putOn, if_neg (by simpa using hr), if_neg (by simp; omega), List.nil_append]

theorem once_sync {rs : List Rc} {r : Rc} (h : ∀ c, c ∈ rs → c.chk = 0) (hr : r.chk = 0) (hl : rs.length < 80) : dsync (rtxt rs) (r.txt ++ [10]) = ((rtxt (rs ++ [r]), []), 0) := by
  have h2 := rc_len300 hr
  have e : rtxt rs ++ (r.txt ++ [10]) = rtxt (rs ++ [r]) := by simp [rtxt]
  have h3 := rows_ck (good_snoc h hr) (by simp; omega) [] (by simp)
  rw [dsync, if_neg (by rw [rows_ck h (by omega) _ (by simp; omega)]; simp), synced, e, if_neg (by rw [h3]; simp)]

theorem once_recover {rs : List Rc} (h : ∀ c, c ∈ rs → c.chk = 0) (hl : rs.length ≤ 80) : drecover (rtxt rs) [] = ((rtxt rs, []), rs, 0) := by
  rw [drecover, if_neg (by rw [rows_ck h hl [] (by simp)]; simp), recovered, lines_all h (by omega), show linesOf [] (160 - rs.length) = ([], 0, 0) from dl_nil _ 0 [] 0]
  simp

end Go.Proofs.YtnmapehbcccbhadDoor
