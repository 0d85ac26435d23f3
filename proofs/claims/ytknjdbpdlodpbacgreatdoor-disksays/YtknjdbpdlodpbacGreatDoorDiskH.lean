/- The walk of DiskSays, given package disk's contracts. -/
import Derived.Test.YtknjdbpdlodpbacGreatDoorDiskE
import Derived.Test.YtknjdbpdlodpbacGreatDoorDiskG
import Derived.Deep.RegionHeld3
namespace Go.Proofs.YtknjdbpdlodpbacGreatDoor
open Go.RowKit
open scoped Classical

theorem DiskR.at {W : World} {v1 v2 : Value} {d : Dk} (h : DiskR W v1 v2 d) : DiskAt W v1 v2 d := ⟨h.safe, h.wait⟩

/-- Blocks that stand, disks in memory, what the variables hold. -/
structure Held (w W : World) (bs : List (Nat × Obj)) (ds : List (Value × Value × Dk)) : Prop where
  below : Below w.heap.size w W
  laid : Laid W
  box : ∀ p, p ∈ bs → W.heap[p.1]? = some p.2
  disk : ∀ p, p ∈ ds → DiskAt W p.1 p.2.1 p.2.2

theorem Held.later {w W W' : World} {bs : List (Nat × Obj)} {ds : List (Value × Value × Dk)} (h : Held w W bs ds) (hb : Below W.heap.size W W') : Held w W' bs ds :=
  ⟨h.below.trans (hb.mono h.below.size), h.laid.later hb, fun p hp => heap_below (h.box p hp) hb (heap_lt (h.box p hp)), fun p hp => (h.disk p hp).later hb⟩

theorem Held.more {w W : World} {bs : List (Nat × Obj)} {ds : List (Value × Value × Dk)} (h : Held w W bs ds) {v1 v2 : Value} {d : Dk} (hd : DiskAt W v1 v2 d) : Held w (W.alloc (boxD v1 v2)) ((W.heap.size, boxD v1 v2) :: bs) ((v1, v2, d) :: ds) := by
  have h' := h.later (grew (Below.refl _ _) (boxD v1 v2))
  refine ⟨h'.below, h'.laid, fun p hp => ?_, fun p hp => ?_⟩
  · rcases List.mem_cons.1 hp with rfl | hp
    · exact heap_new _ _
    · exact h'.box p hp
  · rcases List.mem_cons.1 hp with rfl | hp
    · exact hd.later (grew (Below.refl _ _) _)
    · exact h'.disk p hp

theorem DiskAt.forms {W : World} {v1 v2 : Value} {d : Dk} (h : DiskAt W v1 v2 d) : ∃ a1 c1 a2 c2, v1 = .slice a1 d.1.length c1 ∧ v2 = .slice a2 d.2.length c2 := by
  obtain ⟨a1, c1, e1, _⟩ := h.safe
  obtain ⟨a2, c2, e2, _⟩ := h.wait
  exact ⟨a1, c1, a2, c2, e1, e2⟩

theorem Held.cells {w W : World} {bs : List (Nat × Obj)} {ds : List (Value × Value × Dk)} (h : Held w W bs ds) {B : Nat} {v1 v2 : Value} (hm : (B, boxD v1 v2) ∈ bs) : ∀ i, W.cell? ⟨B, i, none⟩ = #[v1, v2][i]? := fun i => Joins.cell_of_block (h.box _ hm) i

theorem Held.recs {w W : World} {bs : List (Nat × Obj)} {ds : List (Value × Value × Dk)} (h : Held w W bs ds) {B : Nat} {r : Rc} (hm : (B, boxRc r) ∈ bs) : ∀ i, W.cell? ⟨B, i, none⟩ = #[Value.int .i64 r.k, .int .i64 r.a, .int .i64 r.p, .int .i64 r.e.k, .int .i64 r.e.j, .int .i64 r.e.v, .int .i64 r.e.t, .int .i64 r.e.c][i]? := fun i => Joins.cell_of_block (h.box _ hm) i

/-- The lengths of what a disk's functions answer. -/
theorem dput_len (s t : List UInt8) (c : Rc) : (dput s t c).1.1.length ≤ topLen ∧ (dput s t c).1.2.length ≤ topLen := by
  unfold dput topLen
  split
  · simp
  · rename_i h
    have h0 := (ckDisk_zero.1 (by simpa using h)).1
    unfold putOn
    split
    · simp
    · split
      · simp
      · rename_i h2
        simp
        omega

theorem dsync_len (s t : List UInt8) : (dsync s t).1.1.length ≤ topLen ∧ (dsync s t).1.2.length ≤ topLen := by
  unfold dsync topLen
  split
  · simp
  · rename_i h
    have h0 := (ckDisk_zero.1 (by simpa using h)).1
    unfold synced
    split
    · simp
    · simp
      omega

theorem dcrash_len (s t : List UInt8) (n : Int) : (dcrash s t n).1.1.length ≤ topLen ∧ (dcrash s t n).1.2.length ≤ topLen := by
  unfold dcrash topLen
  split
  · simp
  · rename_i h
    have h0 := (ckDisk_zero.1 (by simpa using h)).1
    split
    · simp
    · simp
      omega

theorem drecover_len (s t : List UInt8) : (drecover s t).1.1.length ≤ topLen ∧ (drecover s t).1.2.length ≤ topLen ∧ (drecover s t).2.1.length ≤ topLen := by
  unfold drecover topLen
  split
  · simp
  · rename_i h
    have h0 := (ckDisk_zero.1 (by simpa using h)).1
    have h1 := (lines_len s 160).1
    have h2 := (lines_len t (160 - (linesOf s 160).1.length)).1
    unfold recovered
    simp
    omega

/-- All that is held, by a letter. -/
theorem held_letter {w W : World} {bs : List (Nat × Obj)} {ds : List (Value × Value × Dk)} {Q : World → Prop} (hQ : ∀ W W', Q W → Below W.heap.size W W' → Q W') (h : Held w W bs ds) (q : Q W) : ∃ P : World → Prop, P W ∧ (∀ W W', P W → Below W.heap.size W W' → P W') ∧ (∀ W, P W → Held w W bs ds ∧ Q W) :=
  ⟨fun W => Held w W bs ds ∧ Q W, ⟨h, q⟩, fun _ _ h hb => ⟨h.1.later hb, hQ _ _ h.2 hb⟩, fun _ h => h⟩

/-- What DiskSays' guards read. -/
abbrev SaS (P : World → Prop) (W : World) (b g : Nat) (v1 v2 u1 u2 : Value) : Prop := P W ∧ W.cell? ⟨b, 0, none⟩ = some v1 ∧ W.cell? ⟨b, 1, none⟩ = some v2 ∧ W.cell? ⟨g, 0, none⟩ = some u1 ∧ W.cell? ⟨g, 1, none⟩ = some u2
theorem sas_step {P : World → Prop} (hP : ∀ W W', P W → Below W.heap.size W W' → P W') {W W' : World} {b g : Nat} {v1 v2 u1 u2 : Value} (h : SaS P W b g v1 v2 u1 u2) (hb : Below W.heap.size W W') : SaS P W' b g v1 v2 u1 u2 :=
  ⟨hP _ _ h.1 hb, cell_later hb h.2.1, cell_later hb h.2.2.1, cell_later hb h.2.2.2.1, cell_later hb h.2.2.2.2⟩
theorem sas_P {P : World → Prop} {W : World} {b g : Nat} {v1 v2 u1 u2 : Value} (h : SaS P W b g v1 v2 u1 u2) : P W := h.1

set_option linter.unusedSimpArgs false in
set_option maxHeartbeats 8000000 in
set_option maxRecDepth 100000 in
theorem diskSays_at (hK : Disks) (a1 a2 a3 a4 : Option Addr) (n1 n2 n3 n4 q1 q2 q3 q4 : Nat) (d x : Dk) (c : Rc) (n : Int) (w : World) (hL : Laid w) (hd : DiskR w (.slice a1 n1 q1) (.slice a2 n2 q2) d) (hx : DiskR w (.slice a3 n3 q3) (.slice a4 n4 q4) x) (l1 : d.1.length = n1) (l2 : d.2.length = n2) (l3 : x.1.length = n3) (l4 : x.2.length = n4) (m1 : n1 ≤ topLen) (m2 : n2 ≤ topLen) (m3 : n3 ≤ topLen) (m4 : n4 ≤ topLen)  :
    Calls Tryz.prog 3 #[.agg #[.slice a1 n1 q1, .slice a2 n2 q2], c.val, .int .i64 n, .agg #[.slice a3 n3 q3, .slice a4 n4 q4]] w fun e w' => e = .returned (.bool true) ∧ Below w.heap.size w w' := by
  have t1 : d.1.length ≤ topLen := by omega
  have t2 : d.2.length ≤ topLen := by omega
  have t3 : x.1.length ≤ topLen := by omega
  have t4 : x.2.length ≤ topLen := by omega
  have HK : Aside Disks := hK
  have HD : Aside (∀ W, Below w.heap.size w W → DiskR W (.slice a1 n1 q1) (.slice a2 n2 q2) d) := fun W hb => hd.later hb
  have HX : Aside (∀ W, Below w.heap.size w W → DiskR W (.slice a3 n3 q3) (.slice a4 n4 q4) x) := fun W hb => hx.later hb
  have HT : Aside (d.1.length ≤ topLen ∧ d.2.length ≤ topLen ∧ x.1.length ≤ topLen ∧ x.2.length ≤ topLen) := ⟨t1, t2, t3, t4⟩
  have hB0 := grew (grew (grew (Below.refl w.heap.size w) (boxD (.slice a1 n1 q1) (.slice a2 n2 q2))) (boxRc c)) (boxD (.slice a3 n3 q3) (.slice a4 n4 q4))
  have H0 : Held w (((w.alloc (boxD (.slice a1 n1 q1) (.slice a2 n2 q2))).alloc (boxRc c)).alloc (boxD (.slice a3 n3 q3) (.slice a4 n4 q4))) [(w.heap.size, boxD (.slice a1 n1 q1) (.slice a2 n2 q2)), (w.heap.size + 1, boxRc c), (w.heap.size + 2, boxD (.slice a3 n3 q3) (.slice a4 n4 q4))] [] := by
    refine ⟨hB0, hL.later hB0, fun p hp => ?_, fun p hp => by cases hp⟩
    have e1 := heap_old (heap_old (heap_new w (boxD (.slice a1 n1 q1) (.slice a2 n2 q2))) (boxRc c)) (boxD (.slice a3 n3 q3) (.slice a4 n4 q4))
    have e2 := heap_old (heap_new (w.alloc (boxD (.slice a1 n1 q1) (.slice a2 n2 q2))) (boxRc c)) (boxD (.slice a3 n3 q3) (.slice a4 n4 q4))
    have e3 := heap_new ((w.alloc (boxD (.slice a1 n1 q1) (.slice a2 n2 q2))).alloc (boxRc c)) (boxD (.slice a3 n3 q3) (.slice a4 n4 q4))
    simp only [World.size_alloc] at e2 e3
    simp only [List.mem_cons, List.not_mem_nil, or_false] at hp
    rcases hp with rfl | rfl | rfl
    · exact e1
    · exact e2
    · exact e3
  have hrm : Hid (n2 ≤ q2) := by
    obtain ⟨a, n, c, e, h⟩ := hd.room2
    injection e with _ e2 e3
    rw [← e2, ← e3] at h
    exact h
  have HLn : Hid (d.1.length = n1 ∧ d.2.length = n2) := ⟨l1, l2⟩
  clear hK hd hx hL l1 l2 l3 l4 t1 t2 t3 t4 hB0
  obtain ⟨r0, E0⟩ : ∃ r, Hid (dput d.1 d.2 c = r) := ⟨_, rfl⟩
  obtain ⟨r1, E1⟩ : ∃ r, Hid (dsync d.1 d.2 = r) := ⟨_, rfl⟩
  obtain ⟨r2, E2⟩ : ∃ r, Hid (dcrash d.1 d.2 n = r) := ⟨_, rfl⟩
  obtain ⟨r3, E3⟩ : ∃ r, Hid (drecover d.1 d.2 = r) := ⟨_, rfl⟩
  obtain ⟨kd, EK⟩ : ∃ r, Hid (ckDisk d.1 d.2 = r) := ⟨_, rfl⟩
  go_enter Tryz.func3, Tryz.ntmps3
  have z := H0.cells (B := w.heap.size) (v1 := .slice a1 n1 q1) (v2 := .slice a2 n2 q2) (by simp)
  have y := H0.recs (B := w.heap.size + 1) (r := c) (by simp)
  have k := HK.out.put _ _ d c _ H0.laid (HD.out _ H0.below) HT.out.1 HT.out.2.1
  rw [E0.out] at k
  go_wp2_with fail
  refine k.mono ?_
  rintro e w1 ⟨u1, u2, rfl, hr, hb, _⟩
  obtain ⟨b01, p01, b02, p02, rfl, rfl⟩ := hr.forms
  obtain ⟨m01, hm1⟩ : ∃ m, r0.1.1.length = m := ⟨_, rfl⟩
  obtain ⟨m02, hm2⟩ : ∃ m, r0.1.2.length = m := ⟨_, rfl⟩
  rw [hm1, hm2] at hr ⊢
  have H1 := (H0.later hb).more hr.at

  clear k z y hb hr hm1 hm2 H0
  have z := H1.cells (B := w.heap.size) (v1 := .slice a1 n1 q1) (v2 := .slice a2 n2 q2) (by simp)
  have k := HK.out.sync _ _ d _ H1.laid (HD.out _ H1.below) HT.out.1 HT.out.2.1
  rw [E1.out] at k
  go_wp2_with fail
  refine k.mono ?_
  rintro e w2 ⟨u1, u2, rfl, hr, hb, _⟩
  obtain ⟨b11, p11, b12, p12, rfl, rfl⟩ := hr.forms
  obtain ⟨m11, hm1⟩ : ∃ m, r1.1.1.length = m := ⟨_, rfl⟩
  obtain ⟨m12, hm2⟩ : ∃ m, r1.1.2.length = m := ⟨_, rfl⟩
  rw [hm1, hm2] at hr ⊢
  have H2 := (H1.later hb).more hr.at

  clear k z hb hr hm1 hm2 H1
  have z := H2.cells (B := w.heap.size) (v1 := .slice a1 n1 q1) (v2 := .slice a2 n2 q2) (by simp)
  have k := HK.out.crash _ _ d n _ H2.laid (HD.out _ H2.below) HT.out.1 HT.out.2.1
  rw [E2.out] at k
  go_wp2_with fail
  refine k.mono ?_
  rintro e w3 ⟨u1, u2, rfl, hr, hb, _⟩
  obtain ⟨b21, p21, b22, p22, rfl, rfl⟩ := hr.forms
  obtain ⟨m21, hm1⟩ : ∃ m, r2.1.1.length = m := ⟨_, rfl⟩
  obtain ⟨m22, hm2⟩ : ∃ m, r2.1.2.length = m := ⟨_, rfl⟩
  rw [hm1, hm2] at hr ⊢
  have H3 := (H2.later hb).more hr.at

  clear k z hb hr hm1 hm2 H2
  have z := H3.cells (B := w.heap.size) (v1 := .slice a1 n1 q1) (v2 := .slice a2 n2 q2) (by simp)
  have k := HK.out.recover _ _ d _ H3.laid (HD.out _ H3.below) HT.out.1 HT.out.2.1
  rw [E3.out] at k
  go_wp2_with fail
  refine k.mono ?_
  rintro e w4 ⟨u1, u2, u3, rfl, hr, hl, hb⟩
  obtain ⟨b31, p31, b32, p32, rfl, rfl⟩ := hr.forms
  obtain ⟨m31, hm1⟩ : ∃ m, r3.1.1.length = m := ⟨_, rfl⟩
  obtain ⟨m32, hm2⟩ : ∃ m, r3.1.2.length = m := ⟨_, rfl⟩
  rw [hm1, hm2] at hr ⊢
  have H4 := (H3.later hb).more hr.at
  obtain ⟨al, cl, rfl, _⟩ := id hl
  obtain ⟨ml, hml⟩ : ∃ m, r3.2.1.length = m := ⟨_, rfl⟩
  rw [hml] at hl ⊢
  have HLs : Aside (RecSl w4 (.slice al ml cl) r3.2.1) := hl
  have HML : Hid (r3.2.1.length = ml) := hml
  clear hml
  clear k z hb hr hm1 hm2 H3 hl
  have z := H4.cells (B := w.heap.size) (v1 := .slice a1 n1 q1) (v2 := .slice a2 n2 q2) (by simp)
  have k := ref_ckDisk (.slice a1 n1 q1) (.slice a2 n2 q2) d.1 d.2 _ H4.laid (HD.out _ H4.below).at HT.out.1
  rw [EK.out] at k
  go_wp2_with fail
  refine k.mono ?_
  rintro e w5 ⟨rfl, hb⟩
  have H5 := H4.later hb
  have HLs5 : Aside (RecSl w5 (.slice al ml cl) r3.2.1) := SlOf.later (SlOf.later HLs.out (grew (Below.refl _ _) _)) hb
  clear k z hb H4 HLs
  have H6 := H5.more (disk_nil w5)
  have HLs6 : Aside (RecSl (w5.alloc (boxD nilB nilB)) (.slice al ml cl) r3.2.1) := SlOf.later HLs5.out (grew (Below.refl _ _) _)
  clear H5 HLs5
  go_wp2_with fail
  generalize hW6 : w5.alloc (boxD nilB nilB) = W6 at *
  generalize w5.heap.size = B5 at *
  obtain ⟨P, hP6, hPs, hPh⟩ := held_letter (Q := fun W => RecSl W (.slice al ml cl) r3.2.1) (fun _ _ h hb => SlOf.later h hb) H6 HLs6.out
  have HPh : Aside _ := hPh
  have hf := fun W (h : P W) => filed_any HK.out W (HPh.out W h).1.laid
  have hck := fun W (h : P W) => HK.out.check _ _ d W (HPh.out W h).1.laid (HD.out W (HPh.out W h).1.below) HT.out.1 HT.out.2.1
  have hsm := fun W (h : P W) => HK.out.same _ _ _ _ d x W (HD.out W (HPh.out W h).1.below) (HX.out W (HPh.out W h).1.below) HT.out.1 HT.out.2.1 HT.out.2.2.1 HT.out.2.2.2
  have hsr := fun W (h : P W) => ref_sameDisk _ _ _ _ d x W (HD.out W (HPh.out W h).1.below).at (HX.out W (HPh.out W h).1.below).at HT.out.1 HT.out.2.1
  rw [EK.out] at hck
  obtain ⟨bb, hbb⟩ : ∃ bb, decide (d = x) = bb := ⟨_, rfl⟩
  rw [hbb] at hsm hsr
  have zd := H6.cells (B := w.heap.size) (v1 := .slice a1 n1 q1) (v2 := .slice a2 n2 q2) (by simp)
  have zx := H6.cells (B := w.heap.size + 2) (v1 := .slice a3 n3 q3) (v2 := .slice a4 n4 q4) (by simp)
  have hS0 : SaS P W6 w.heap.size (w.heap.size + 2) (.slice a1 n1 q1) (.slice a2 n2 q2) (.slice a3 n3 q3) (.slice a4 n4 q4) := ⟨hP6, zd 0, zd 1, zx 0, zx 1⟩
  have hbd : Below W6.heap.size W6 W6.drew := (Below.refl _ _).drew
  clear H6 HLs6 hPh hP6 hbb hW6 zd zx
  go_region_held3 (fun w' => SaS P w' w.heap.size (w.heap.size + 2) (.slice a1 n1 q1) (.slice a2 n2 q2) (.slice a3 n3 q3) (.slice a4 n4 q4)) (exact sas_step hPs (by assumption) (by assumption)) (first | (go_at_call 9; refine (hf _ (sas_P (by assumption))).mono ?_; rintro e x1 ⟨rfl, hb1⟩) | (go_at_call 10; refine (hck _ (sas_P (by assumption))).mono ?_; rintro e x2 ⟨rfl, hb2⟩) | (go_at_call 11; refine (hsm _ (sas_P (by assumption))).mono ?_; rintro e x3 ⟨rfl, hb3⟩) | (go_at_call 12; refine (hsr _ (sas_P (by assumption))).mono ?_; rintro e x4 ⟨rfl, hb4⟩))
  rename_i hS
  have hPX : P x4 := hS.1
  have HPs : Aside _ := hPs
  clear hf hck hsm hsr hS0 hbd hb1 hb2 hb3 hb4 hS hPs
  have zA := fun W (h : P W) => (HPh.out W h).1.cells (B := w1.heap.size) (v1 := .slice b01 m01 p01) (v2 := .slice b02 m02 p02) (by simp)
  have zB := fun W (h : P W) => (HPh.out W h).1.cells (B := w2.heap.size) (v1 := .slice b11 m11 p11) (v2 := .slice b12 m12 p12) (by simp)
  have zC := fun W (h : P W) => (HPh.out W h).1.cells (B := w3.heap.size) (v1 := .slice b21 m21 p21) (v2 := .slice b22 m22 p22) (by simp)
  have zD := fun W (h : P W) => (HPh.out W h).1.cells (B := w4.heap.size) (v1 := .slice b31 m31 p31) (v2 := .slice b32 m32 p32) (by simp)
  have zN := fun W (h : P W) => (HPh.out W h).1.cells (B := B5) (v1 := nilB) (v2 := nilB) (by simp)
  have kA := fun W (h : P W) => (HPh.out W h).1.disk (.slice b01 m01 p01, .slice b02 m02 p02, r0.1) (by simp)
  have kB := fun W (h : P W) => (HPh.out W h).1.disk (.slice b11 m11 p11, .slice b12 m12 p12, r1.1) (by simp)
  have kC := fun W (h : P W) => (HPh.out W h).1.disk (.slice b21 m21 p21, .slice b22 m22 p22, r2.1) (by simp)
  have kD := fun W (h : P W) => (HPh.out W h).1.disk (.slice b31 m31 p31, .slice b32 m32 p32, r3.1) (by simp)
  have KK : Aside _ := And.intro kA (And.intro kB (And.intro kC kD))
  have ZZ : Aside _ := And.intro zA (And.intro zB (And.intro zC (And.intro zD zN)))
  clear kA kB kC kD zA zB zC zD zN
  have LN : Aside ((r0.1.1.length ≤ topLen ∧ r0.1.2.length ≤ topLen) ∧ (r1.1.1.length ≤ topLen ∧ r1.1.2.length ≤ topLen) ∧ (r2.1.1.length ≤ topLen ∧ r2.1.2.length ≤ topLen) ∧ (r3.1.1.length ≤ topLen ∧ r3.1.2.length ≤ topLen ∧ r3.2.1.length ≤ topLen)) := ⟨by rw [← E0.out]; exact dput_len _ _ _, by rw [← E1.out]; exact dsync_len _ _, by rw [← E2.out]; exact dcrash_len _ _ _, by rw [← E3.out]; exact drecover_len _ _⟩
  by_cases hkd : kd = 0
  · subst hkd
    have hlen := (ckDisk_zero.1 EK.out).1
    have e0 : Hid (putOn d.1 d.2 c = r0) := by rw [Hid, ← E0.out, dput, if_neg (by rw [EK.out]; simp)]
    have e1 : Hid (synced d.1 d.2 = r1) := by rw [Hid, ← E1.out, dsync, if_neg (by rw [EK.out]; simp)]
    have e2 : Hid ((if n < 0 ∨ (d.2.length : Int) < n then (([], []), 3) else ((d.1, d.2.take n.toNat), 0) : Dk × Int) = r2) := by
      have h := E2.out
      rw [dcrash, if_neg (by rw [EK.out]; simp)] at h
      exact h
    have e3 : Hid ((recovered d.1 d.2).1 = r3.1 ∧ (recovered d.1 d.2).2 = r3.2.1 ∧ r3.2.2 = 0) := by rw [Hid, ← E3.out, drecover, if_neg (by rw [EK.out]; simp)]; exact ⟨rfl, rfl, rfl⟩
    have HLEN : Hid (d.1.length + d.2.length ≤ 30000) := hlen
    have G0 : Held w x4 [] [] := ⟨(HPh.out x4 hPX).1.below, (HPh.out x4 hPX).1.laid, fun p hp => (by cases hp), fun p hp => (by cases hp)⟩
    have zd := fun W (h : P W) => (HPh.out W h).1.cells (B := w.heap.size) (v1 := .slice a1 n1 q1) (v2 := .slice a2 n2 q2) (by simp)
    have zc := (HPh.out x4 hPX).1.recs (B := w.heap.size + 1) (r := c) (by simp)
    have ZD : Aside _ := zd
    have y0 := zd x4 hPX
    have k := ref_putOn _ _ d.1 d.2 c x4 G0.laid (HD.out _ G0.below).at HLEN.out
    rw [e0.out] at k
    clear hlen zd E0 E1 E2 E3
    go_wp2_with fail
    refine k.mono ?_
    rintro e y1 ⟨u1, u2, rfl, hr, hb⟩
    obtain ⟨d01, s01, d02, s02, rfl, rfl⟩ := hr.forms
    obtain ⟨j01, hj1⟩ : ∃ m, r0.1.1.length = m := ⟨_, rfl⟩
    obtain ⟨j02, hj2⟩ : ∃ m, r0.1.2.length = m := ⟨_, rfl⟩
    rw [hj1, hj2] at hr ⊢
    have G1 := (G0.later hb).more hr
    have hP1 := HPs.out _ _ (HPs.out _ _ hPX hb) (grew (Below.refl _ _) (boxD (.slice d01 j01 s01) (.slice d02 j02 s02)))
    have y1' := ZD.out _ hP1
    have k1 := ref_synced _ _ d.1 d.2 _ G1.laid (HD.out _ G1.below).at HLEN.out
    rw [e1.out] at k1
    clear k y0 zc hb hr hj1 hj2 G0 hPX
    go_wp2_with fail
    refine k1.mono ?_
    rintro e y2 ⟨u1, u2, rfl, hr, hb⟩
    obtain ⟨d11, s11, d12, s12, rfl, rfl⟩ := hr.forms
    obtain ⟨j11, hj1⟩ : ∃ m, r1.1.1.length = m := ⟨_, rfl⟩
    obtain ⟨j12, hj2⟩ : ∃ m, r1.1.2.length = m := ⟨_, rfl⟩
    rw [hj1, hj2] at hr ⊢
    have G2 := (G1.later hb).more hr
    have hP2 := HPs.out _ _ (HPs.out _ _ hP1 hb) (grew (Below.refl _ _) (boxD (.slice d11 j11 s11) (.slice d12 j12 s12)))
    have y2' := ZD.out _ hP2
    have k2 := ref_recovered _ _ d.1 d.2 _ G2.laid (HD.out _ G2.below).at HLEN.out (HD.out _ G2.below).room2
    rw [e3.out.1, e3.out.2.1] at k2
    clear k1 y1' hb hr hj1 hj2 G1 hP1
    go_wp2_with fail
    refine k2.mono ?_
    rintro e y3 ⟨u1, u2, u3, rfl, hr, hl, hb⟩
    obtain ⟨d31, s31, d32, s32, rfl, rfl⟩ := hr.forms
    obtain ⟨j31, hj1⟩ : ∃ m, r3.1.1.length = m := ⟨_, rfl⟩
    obtain ⟨j32, hj2⟩ : ∃ m, r3.1.2.length = m := ⟨_, rfl⟩
    rw [hj1, hj2] at hr ⊢
    obtain ⟨aL, cL, rfl, _⟩ := id hl
    rw [HML.out] at hl ⊢
    have G3 := (G2.later hb).more hr
    have hP3 := HPs.out _ _ (HPs.out _ _ hP2 hb) (grew (Below.refl _ _) (boxD (.slice d31 j31 s31) (.slice d32 j32 s32)))
    have hl3 : RecSl (y3.alloc (boxD (.slice d31 j31 s31) (.slice d32 j32 s32))) (.slice aL ml cL) r3.2.1 := SlOf.later hl (grew (Below.refl _ _) _)
    obtain ⟨R, hRY, hRs, hRh⟩ := held_letter (Q := fun W => P W ∧ RecSl W (.slice aL ml cL) r3.2.1) (fun W W' h hb => ⟨HPs.out W W' h.1 hb, SlOf.later h.2 hb⟩) G3 ⟨hP3, hl3⟩
    have HRs : Aside _ := hRs
    have HRh : Aside _ := hRh
    have hsd : ∀ (v1 v2 u1 u2 : Value) (dd : Dk) (W : World), DiskAt W v1 v2 dd → DiskAt W u1 u2 dd → dd.1.length ≤ topLen → dd.2.length ≤ topLen → Calls Tryz.prog 12 #[.agg #[v1, v2], .agg #[u1, u2]] W fun e w' => e = .returned (.bool true) ∧ Below W.heap.size W w' := fun v1 v2 u1 u2 dd W h h' t1 t2 => by
      have := ref_sameDisk v1 v2 u1 u2 dd dd W h h' t1 t2
      rwa [decide_eq_true rfl] at this
    have yA := ZZ.out.1 _ hP3
    have yA' := G3.cells (B := y1.heap.size) (v1 := .slice d01 j01 s01) (v2 := .slice d02 j02 s02) (by simp)
    have kA := hsd _ _ _ _ r0.1 _ (KK.out.1 _ hP3) (G3.disk (.slice d01 j01 s01, .slice d02 j02 s02, r0.1) (by simp)) LN.out.1.1 LN.out.1.2
    have h32 := e3.out.2.2
    clear k2 y2' hb hr hj1 hj2 G2 hP2 hl hl3 hRs hRh hP3 G3
    rw [h32]
    clear h32
    go_wp2_with fail
    refine kA.mono ?_
    rintro e x5 ⟨rfl, hb5⟩
    have hR5 := HRs.out _ _ hRY hb5
    have yB := ZZ.out.2.1 _ (HRh.out _ hR5).2.1
    have yB' := (HRh.out _ hR5).1.cells (B := y2.heap.size) (v1 := .slice d11 j11 s11) (v2 := .slice d12 j12 s12) (by simp)
    have kB := hsd _ _ _ _ r1.1 _ (KK.out.2.1 _ (HRh.out _ hR5).2.1) ((HRh.out _ hR5).1.disk (.slice d11 j11 s11, .slice d12 j12 s12, r1.1) (by simp)) LN.out.2.1.1 LN.out.2.1.2
    clear yA yA' kA hb5 hRY
    go_wp2_with fail
    refine kB.mono ?_
    rintro e x6 ⟨rfl, hb6⟩
    have hR6 := HRs.out _ _ hR5 hb6
    have yD := ZZ.out.2.2.2.1 _ (HRh.out _ hR6).2.1
    have yD' := (HRh.out _ hR6).1.cells (B := y3.heap.size) (v1 := .slice d31 j31 s31) (v2 := .slice d32 j32 s32) (by simp)
    have kD := hsd _ _ _ _ r3.1 _ (KK.out.2.2.2 _ (HRh.out _ hR6).2.1) ((HRh.out _ hR6).1.disk (.slice d31 j31 s31, .slice d32 j32 s32, r3.1) (by simp)) LN.out.2.2.2.1 LN.out.2.2.2.2.1
    clear yB yB' kB hb6 hR5
    go_wp2_with fail
    refine kD.mono ?_
    rintro e x7 ⟨rfl, hb7⟩
    have hR7 := HRs.out _ _ hR6 hb7
    have kL := equalC _ _ _ _ x7 (HPh.out _ (HRh.out _ hR7).2.1).2 (HRh.out _ hR7).2.2 (Nat.le_trans LN.out.2.2.2.2.2 (by decide))
    rw [decide_eq_true rfl] at kL
    clear yD yD' kD hb7 hR6
    go_wp2_with fail
    refine kL.mono ?_
    rintro e x8 ⟨rfl, hb8⟩
    have hR8 := HRs.out _ _ hR7 hb8
    have y8 := ZD.out _ (HRh.out _ hR8).2.1
    clear kL hb8 hR7
    have hn2 : d.2.length = n2 := HLn.out.2
    by_cases hrg : n < 0 ∨ (n2 : Int) < n
    · obtain rfl : r2 = (([], []), 3) := by rw [← e2.out, if_pos (by rw [hn2]; exact hrg)]
      have yC := ZZ.out.2.2.1 _ (HRh.out _ hR8).2.1
      have yN := ZZ.out.2.2.2.2 _ (HRh.out _ hR8).2.1
      have kC := hsd _ _ nilB nilB ([], []) _ (KK.out.2.2.1 _ (HRh.out _ hR8).2.1) (disk_nil _) (by simp) (by simp)
      clear hn2 e2 hsd
      by_cases hneg : n < 0
      · clear hrg
        go_wp2_with fail
        refine kC.mono ?_
        rintro e x9 ⟨rfl, hb9⟩
        have HB9 : Aside (Below w.heap.size w x9) := (HPh.out _ (HRh.out _ (HRs.out _ _ hR8 hb9)).2.1).1.below
        clear kC hb9 hR8 yC yN y8
        go_wp2
        go_ret
        exact ⟨rfl, HB9.out⟩
      · have hgt : (n2 : Int) < n := hrg.resolve_left hneg
        have hge : 0 ≤ n := by omega
        clear hrg hneg
        go_wp2_with fail
        refine kC.mono ?_
        rintro e x9 ⟨rfl, hb9⟩
        have HB9 : Aside (Below w.heap.size w x9) := (HPh.out _ (HRh.out _ (HRs.out _ _ hR8 hb9)).2.1).1.below
        clear kC hb9 hR8 yC yN y8
        go_wp2
        go_ret
        exact ⟨rfl, HB9.out⟩
    · obtain rfl : r2 = ((d.1, d.2.take n.toNat), 0) := by rw [← e2.out, if_neg (by rw [hn2]; exact hrg)]
      have hge : 0 ≤ n := by omega
      have hle : n ≤ (n2 : Int) := by omega
      have hq : n ≤ (q2 : Int) := by have := hrm.out; omega
      have hnn : n < 0 → False := by omega
      have hgt : decide ((n2 : Int) < n) = false := by rw [decide_eq_false_iff_not]; omega
      have hlt0 : decide (n < 0) = false := by rw [decide_eq_false_iff_not]; omega
      clear hrg
      have yC := ZZ.out.2.2.1 _ (HRh.out _ hR8).2.1
      have kC := fun W (h : R W) => hsd _ _ (.slice a1 n1 q1) (.slice a2 n.toNat q2) (d.1, d.2.take n.toNat) W (KK.out.2.2.1 _ (HRh.out _ h).2.1) ⟨(HD.out W (HPh.out _ (HRh.out _ h).2.1).1.below).safe, SlOf.upto (HD.out W (HPh.out _ (HRh.out _ h).2.1).1.below).wait n.toNat (by omega)⟩ LN.out.2.2.1.1 LN.out.2.2.1.2
      have hS0 : SaS R x8 w.heap.size w3.heap.size (.slice a1 n1 q1) (.slice a2 n2 q2) (.slice b21 m21 p21) (.slice b22 m22 p22) := ⟨hR8, y8 0, y8 1, yC 0, yC 1⟩
      have hbd : Below x8.heap.size x8 x8.drew := (Below.refl _ _).drew
      have hRs := HRs.out
      clear hsd hn2 e2
      go_wp2_with fail
      go_region_held3 (fun w' => SaS R w' w.heap.size w3.heap.size (.slice a1 n1 q1) (.slice a2 n2 q2) (.slice b21 m21 p21) (.slice b22 m22 p22)) (exact sas_step hRs (by assumption) (by assumption)) (first | (go_at_call 12; refine (kC _ (sas_P (by assumption))).mono ?_; rintro e x9 ⟨rfl, hb9⟩))
      rename_i hS
      have HB9 : Aside (Below w.heap.size w x9) := (HPh.out _ (HRh.out _ hS.1).2.1).1.below
      clear kC hb9 hR8 yC y8 hS0 hbd hRs hS
      go_wp2
      go_ret
      exact ⟨rfl, HB9.out⟩
  · have hkb : (kd != 0) = true := by rw [bne_iff_ne]; exact hkd
    have hne : ckDisk d.1 d.2 ≠ 0 := by rw [EK.out]; exact hkd
    obtain rfl : r0 = (([], []), kd) := by rw [← E0.out, dput, if_pos hne, EK.out]
    obtain rfl : r1 = (([], []), kd) := by rw [← E1.out, dsync, if_pos hne, EK.out]
    obtain rfl : r2 = (([], []), kd) := by rw [← E2.out, dcrash, if_pos hne, EK.out]
    obtain rfl : r3 = (([], []), [], kd) := by rw [← E3.out, drecover, if_pos hne, EK.out]
    have hml : ml = 0 := HML.out.symm
    subst hml
    have hsd : ∀ v1 v2 W, DiskAt W v1 v2 ([], []) → Calls Tryz.prog 12 #[.agg #[v1, v2], .agg #[nilB, nilB]] W fun e w' => e = .returned (.bool true) ∧ Below W.heap.size W w' := fun v1 v2 W h => by
      have := ref_sameDisk v1 v2 nilB nilB ([], []) ([], []) W h (disk_nil W) (by simp) (by simp)
      rwa [decide_eq_true rfl] at this
    have yA := ZZ.out.1 x4 hPX
    have yN := ZZ.out.2.2.2.2 x4 hPX
    clear hne hkd LN
    go_wp2_with fail
    refine (hsd _ _ _ (KK.out.1 x4 hPX)).mono ?_
    rintro e x5 ⟨rfl, hb5⟩
    have hP5 := HPs.out _ _ hPX hb5
    have yB := ZZ.out.2.1 x5 hP5
    have yN5 := ZZ.out.2.2.2.2 x5 hP5
    clear yA yN hb5 hPX
    go_wp2_with fail
    refine (hsd _ _ _ (KK.out.2.1 x5 hP5)).mono ?_
    rintro e x6 ⟨rfl, hb6⟩
    have hP6 := HPs.out _ _ hP5 hb6
    have yC := ZZ.out.2.2.1 x6 hP6
    have yN6 := ZZ.out.2.2.2.2 x6 hP6
    clear yB yN5 hb6 hP5
    go_wp2_with fail
    refine (hsd _ _ _ (KK.out.2.2.1 x6 hP6)).mono ?_
    rintro e x7 ⟨rfl, hb7⟩
    have hP7 := HPs.out _ _ hP6 hb7
    have yD := ZZ.out.2.2.2.1 x7 hP7
    have yN7 := ZZ.out.2.2.2.2 x7 hP7
    clear yC yN6 hb7 hP6
    go_wp2_with fail
    refine (hsd _ _ _ (KK.out.2.2.2 x7 hP7)).mono ?_
    rintro e x8 ⟨rfl, hb8⟩
    have HB8 : Aside (Below w.heap.size w x8) := (HPh.out _ (HPs.out _ _ hP7 hb8)).1.below
    clear yD yN7 hb8 hP7 hsd
    go_wp2
    go_ret
    exact ⟨rfl, HB8.out⟩

end Go.Proofs.YtknjdbpdlodpbacGreatDoor
