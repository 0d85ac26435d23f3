/- What the laws on disks ask of package disk; the closed fact 'filed'. -/
import Derived.Test.YtknjdbpdlodpbadDoorDiskW
namespace Go.Proofs.YtknjdbpdlodpbadDoor
open Go.RowKit

theorem dk_nil_lines (most : Nat) : linesOf [] most = ([], 0, 0) := dl_nil most 0 [] 0

def c2 : Rc := ⟨2, 0, 2, En.zero⟩
def c3 : Rc := ⟨2, 0, 3, En.zero⟩
def L2 : List UInt8 := [115, 101, 97, 108, 32, 50, 10]
def L3 : List UInt8 := [115, 101, 97, 108, 32, 51, 10]
theorem c2_chk : c2.chk = 0 := by decide
theorem c3_chk : c3.chk = 0 := by decide
theorem c2_txt : c2.txt ++ [10] = L2 := by kernel_rfl
theorem c3_txt : c3.txt ++ [10] = L3 := by kernel_rfl
theorem c2_rows : rtxt [c2] = L2 := by rw [rtxt, List.flatMap_cons, List.flatMap_nil, List.append_nil, c2_txt]
theorem c3_rows : rtxt [c3] = L3 := by rw [rtxt, List.flatMap_cons, List.flatMap_nil, List.append_nil, c3_txt]

theorem L2_lines (most : Nat) (h : 1 ≤ most) : linesOf L2 most = ([c2], 7, 0) := by
  have := lines_all (rs := [c2]) (fun c hc => by simp at hc; rw [hc]; exact c2_chk) (most := most) h
  rw [c2_rows] at this
  exact this

theorem f1 : dput [] [] c2 = (([], L2), 0) := by
  have h0 : ckDisk [] [] = 0 := ckDisk_zero.2 ⟨by simp, by rw [dk_nil_lines]⟩
  have hl : c2.txt.length + 1 = 7 := by have := congrArg List.length c2_txt; rw [List.length_append] at this; exact this
  rw [dput, if_neg (by simp [h0]), putOn, if_neg (by simp [c2_chk]), if_neg (by simp; omega), c2_txt]
  rfl

theorem f2 : dsync [] L2 = ((L2, []), 0) := by
  have h0 : ckDisk [] L2 = 0 := ckDisk_zero.2 ⟨by decide, by rw [dk_nil_lines]⟩
  have h1 : ckDisk ([] ++ L2) [] = 0 := ckDisk_zero.2 ⟨by decide, by rw [List.nil_append, L2_lines _ (by decide)]⟩
  rw [dsync, if_neg (by simp [h0]), synced, if_neg (by rw [h1]; simp), List.nil_append]

theorem f3 : dput L2 [] c3 = ((L2, L3), 0) := by
  have h0 : ckDisk L2 [] = 0 := ckDisk_zero.2 ⟨by decide, by rw [L2_lines _ (by decide)]⟩
  have hl : c3.txt.length + 1 = 7 := by have := congrArg List.length c3_txt; rw [List.length_append] at this; exact this
  have hl2 : L2.length = 7 := rfl
  rw [dput, if_neg (by simp [h0]), putOn, if_neg (by simp [c3_chk]), if_neg (by rw [hl2]; simp; omega), c3_txt]
  rfl

theorem f4 : dcrash L2 L3 4 = ((L2, [115, 101, 97, 108]), 0) := by
  have h0 : ckDisk L2 L3 = 0 := ckDisk_zero.2 ⟨by decide, by rw [L2_lines _ (by decide)]⟩
  rw [dcrash, if_neg (by simp [h0]), if_neg (by decide)]
  rfl

theorem f5 : drecover L2 [115, 101, 97, 108] = ((L2, []), [c2], 0) := by
  have h0 : ckDisk L2 [115, 101, 97, 108] = 0 := ckDisk_zero.2 ⟨by decide, by rw [L2_lines _ (by decide)]⟩
  obtain ⟨b, hb⟩ := nl_cut (l := [115, 101, 97, 108]) (by decide)
  have h1 : ∀ most, linesOf [115, 101, 97, 108] most = ([], 0, 9) := fun most => dl_torn most _ [] 0 (by simp) hb
  rw [drecover, if_neg (by simp [h0]), recovered, L2_lines _ (by decide), h1]
  rfl

abbrev topLen : Nat := 140737488351232

/-- A slice in a new block, or in one of these two's. -/
def Near (W W' : World) (v1 v2 u : Value) : Prop := ∀ b, u.ownBlock = some b → (W.heap.size ≤ b ∧ b < W'.heap.size) ∨ v1.ownBlock = some b ∨ v2.ownBlock = some b

/-- Answers a disk and what is wrong. -/
abbrev AnsR (f : Nat) (v1 v2 : Value) (args : Array Value) (w : World) (r : Dk × Int) : Prop :=
  Calls Tryd.prog f args w fun e w' => ∃ u1 u2, e = .returned (.tuple #[.agg #[u1, u2], .int .i64 r.2]) ∧ DiskR w' u1 u2 r.1 ∧ Below w.heap.size w w' ∧ Near w w' v1 v2 u1 ∧ Near w w' v1 v2 u2

/-- Package disk. -/
structure Disks : Prop where
  check : ∀ (v1 v2 : Value) (d : Dk) (W : World), Laid W → DiskR W v1 v2 d → d.1.length ≤ topLen → d.2.length ≤ topLen →
    Calls Tryd.prog 14 #[.agg #[v1, v2]] W fun e w' => e = .returned (.int .i64 (ckDisk d.1 d.2)) ∧ Below W.heap.size W w'
  same : ∀ (v1 v2 u1 u2 : Value) (d x : Dk) (W : World), DiskR W v1 v2 d → DiskR W u1 u2 x → d.1.length ≤ topLen → d.2.length ≤ topLen → x.1.length ≤ topLen → x.2.length ≤ topLen →
    Calls Tryd.prog 13 #[.agg #[v1, v2], .agg #[u1, u2]] W fun e w' => e = .returned (.bool (decide (d = x))) ∧ Below W.heap.size W w'
  put : ∀ (v1 v2 : Value) (d : Dk) (c : Rc) (W : World), Laid W → DiskR W v1 v2 d → d.1.length ≤ topLen → d.2.length ≤ topLen → AnsR 6 v1 v2 #[.agg #[v1, v2], c.val] W (dput d.1 d.2 c)
  sync : ∀ (v1 v2 : Value) (d : Dk) (W : World), Laid W → DiskR W v1 v2 d → d.1.length ≤ topLen → d.2.length ≤ topLen → AnsR 7 v1 v2 #[.agg #[v1, v2]] W (dsync d.1 d.2)
  crash : ∀ (v1 v2 : Value) (d : Dk) (n : Int) (W : World), Laid W → DiskR W v1 v2 d → d.1.length ≤ topLen → d.2.length ≤ topLen → AnsR 8 v1 v2 #[.agg #[v1, v2], .int .i64 n] W (dcrash d.1 d.2 n)
  recover : ∀ (v1 v2 : Value) (d : Dk) (W : World), Laid W → DiskR W v1 v2 d → d.1.length ≤ topLen → d.2.length ≤ topLen →
    Calls Tryd.prog 10 #[.agg #[v1, v2]] W fun e w' => ∃ u1 u2 u3, e = .returned (.tuple #[.agg #[u1, u2], u3, .int .i64 (drecover d.1 d.2).2.2]) ∧ DiskR w' u1 u2 (drecover d.1 d.2).1 ∧ RecSl w' u3 (drecover d.1 d.2).2.1 ∧ Below W.heap.size W w'

end Go.Proofs.YtknjdbpdlodpbadDoor
