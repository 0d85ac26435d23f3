/- For the law. -/
import Derived.Test.YtmoaobfmopimlafGreatDoorM11
import Derived.Laws.CopyOwn
set_option linter.unusedSimpArgs false
set_option linter.unusedVariables false
namespace Go.Proofs.YtmoaobfmopimlafGreatDoor
open Go.RowKit
theorem dl_whole (most : Nat) : ∀ (f f' f2 : Nat) (l t : List UInt8) (acc : List Rc) (n : Nat), l.length < f → (l ++ t).length < f' → t.length < f2 → (dl most f l acc n).2.2 = 0 →
  dl most f' (l ++ t) acc n = dl most f2 t (dl most f l acc n).1 (dl most f l acc n).2.1 ∧ (dl most f l acc n).2.1 = n + l.length
 | 0, _, _, _, _, _, _, h, _, _, _ => by omega
 | _, 0, _, _, _, _, _, _, h, _, _ => by omega
 | f + 1, f' + 1, f2, l, t, acc, n, h, h', h2, hz => by
  by_cases hl : l = []
  ·subst hl
   rw [dl_nil, List.nil_append]
   exact ⟨dl_fuel most (f' + 1) f2 t acc n (by simpa using h') h2, rfl⟩
  ·rcases hc : Lib.cut l [10] with ⟨a, b, g⟩
   cases g with
   | false => rw [dl_torn _ _ _ _ hl hc] at hz; cases hz
   | true =>
    have hb := nl_back l a b hc
    have hbl : l.length = a.length + 1 + b.length := by rw [hb]; simp; omega
    have hna : (10 : UInt8) ∉ a := (nl_first hc).1
    have hc' : Lib.cut (l ++ t) [10] = (a, b ++ t, true) := by
     rw [hb, List.append_assoc, List.cons_append]
     exact cut_nl a (b ++ t) hna
    have hlt : l ++ t ≠ [] := by rw [hb]; simp
    rw [List.length_append] at h'
    by_cases hp : (rcRead a).2 = 0
    ·by_cases hm : most ≤ acc.length
     ·rw [dl_many _ _ _ _ hl hc hp hm] at hz; cases hz
     ·rw [dl_more _ _ _ _ hl hc hp hm] at hz ⊢
      rw [dl_more _ _ _ _ hlt hc' hp hm]
      obtain ⟨h3, h4⟩ := dl_whole most f f' f2 b t _ _ (by omega) (by rw [List.length_append]; omega) h2 hz
      exact ⟨h3, by rw [h4]; omega⟩
    ·rw [dl_bad _ _ _ _ hl hc hp] at hz
     exact absurd hz hp
theorem dl_ahead (most : Nat) (pre : List Rc) (k : Nat) (hpre : pre.length ≤ most) : ∀ (f : Nat) (t : List UInt8) (acc : List Rc) (n : Nat),
  dl most f t (pre ++ acc) (k + n) = (pre ++ (dl (most - pre.length) f t acc n).1, k + (dl (most - pre.length) f t acc n).2.1, (dl (most - pre.length) f t acc n).2.2)
 | 0, _, _, _ => rfl
 | f + 1, t, acc, n => by
  by_cases hl : t = []
  ·subst hl; rw [dl_nil, dl_nil]
  ·rcases hc : Lib.cut t [10] with ⟨a, b, g⟩
   cases g with
   | false => rw [dl_torn _ _ _ _ hl hc, dl_torn _ _ _ _ hl hc]
   | true =>
    by_cases hp : (rcRead a).2 = 0
    ·by_cases hm : most - pre.length ≤ acc.length
     ·rw [dl_many _ _ _ _ hl hc hp hm, dl_many _ _ _ _ hl hc hp (by rw [List.length_append]; omega)]
     ·rw [dl_more _ _ _ _ hl hc hp hm, dl_more _ _ _ _ hl hc hp (by rw [List.length_append]; omega)]
      have := dl_ahead most pre k hpre f b (acc ++ [(rcRead a).1]) (n + a.length + 1)
      rw [← this, List.append_assoc]
      congr 1
      omega
    ·rw [dl_bad _ _ _ _ hl hc hp, dl_bad _ _ _ _ hl hc hp]
theorem lines_zero {s : List UInt8} (h : (linesOf s 160).2.2 = 0) : (linesOf s 160).2.1 = s.length := by
 have := (dl_whole 160 (s.length + 1) (s.length + 1) 1 s [] [] 0 (by omega) (by simp) (by simp) h).2
 unfold linesOf
 omega
theorem lines_both {s t : List UInt8} (h : (linesOf s 160).2.2 = 0) : (linesOf (s ++ t) 160).1 = (recovered s t).2 ∧ (s ++ t).take (linesOf (s ++ t) 160).2.1 = (recovered s t).1.1 ∧ (linesOf (s ++ t) 160).2.1 ≤ (s ++ t).length := by
 have h1 := (dl_whole 160 (s.length + 1) ((s ++ t).length + 1) (t.length + 1) s t [] 0 (by omega) (by omega) (by omega) h).1
 have hz := lines_zero h
 have hlen := (lines_len s 160).1
 have h2 := dl_ahead 160 (linesOf s 160).1 s.length hlen (t.length + 1) t [] 0
 have e : linesOf (s ++ t) 160 = ((linesOf s 160).1 ++ (linesOf t (160 - (linesOf s 160).1.length)).1, s.length + (linesOf t (160 - (linesOf s 160).1.length)).2.1, (linesOf t (160 - (linesOf s 160).1.length)).2.2) := by
  have hz' : (dl 160 (s.length + 1) s [] 0).2.1 = s.length := hz
  rw [hz'] at h1
  rw [List.append_nil, Nat.add_zero] at h2
  exact h1.trans h2
 refine ⟨by rw [e]; rfl, ?_, (lines_len (s ++ t) 160).2⟩
 rw [e]
 show (s ++ t).take (s.length + _) = s ++ t.take _
 rw [List.take_append]
 congr 1
 ·rw [List.take_of_length_le (by omega)]
 ·congr 1
  omega
def headIs (c : En) : List En → Bool
 | [] => false
 | x :: _ => !c.ne x
def withinB : List En → List En → Bool
 | [], _ => true
 | c :: r, a => (c.isB || headIs c a) && withinB r a.tail
theorem withinB_iff : ∀ (u a : List En), withinB u a = true ↔ Within u a
 | [], a => ⟨fun _ k c h => by simp at h, fun _ => rfl⟩
 | c :: r, a => by
  rw [withinB, Bool.and_eq_true, withinB_iff r a.tail]
  constructor
  ·rintro ⟨h1, h2⟩ k x hx
   cases k with
   | zero =>
    obtain rfl : c = x := by simpa using hx
    rcases Bool.or_eq_true_iff.1 h1 with h | h
    ·exact Or.inl h
    ·cases a with
     | nil => cases h
     | cons y t =>
      have : c.ne y = false := by simpa [headIs] using h
      exact Or.inr (by rw [ne_false.1 this]; rfl)
   | succ k =>
    have := h2 k x (by simpa using hx)
    rcases this with h | h
    ·exact Or.inl h
    ·right
     cases a with
     | nil => simp at h
     | cons y t => simpa using h
  ·intro h
   refine ⟨?_, fun k x hx => ?_⟩
   ·rcases h 0 c rfl with h | h
    ·rw [h]; rfl
    ·cases a with
     | nil => simp at h
     | cons y t =>
      obtain rfl : y = c := by simpa using h
      rw [headIs, ne_self]; simp
   ·rcases h (k + 1) x (by simpa using hx) with h | h
    ·exact Or.inl h
    ·right
     cases a with
     | nil => simp at h
     | cons y t => simpa using h
theorem within_refl (u : List En) : Within u u := fun _ _ h => Or.inr h
theorem within_trans {u v x : List En} (h : Within u v) (h' : Within v x) : Within u x := fun k c hc => by
 rcases h k c hc with h1 | h1
 ·exact Or.inl h1
 ·exact h' k c h1
def eqEs : List En → List En → Bool
 | [], [] => true
 | x :: r, y :: s => !x.ne y && eqEs r s
 | _, _ => false
theorem eqEs_iff : ∀ (a b : List En), eqEs a b = true ↔ a = b
 | [], [] => ⟨fun _ => rfl, fun _ => rfl⟩
 | [], _ :: _ => ⟨fun h => (by cases h), fun h => (by cases h)⟩
 | _ :: _, [] => ⟨fun h => (by cases h), fun h => (by cases h)⟩
 | x :: r, y :: s => by
  rw [eqEs, Bool.and_eq_true, eqEs_iff r s]
  constructor
  ·rintro ⟨h1, h2⟩
   have : x.ne y = false := by simpa using h1
   rw [ne_false.1 this, h2]
  ·intro h
   injection h with h1 h2
   exact ⟨by rw [h1, ne_self]; rfl, h2⟩
def Un.same (a b : Un) : Bool := decide (a.p = b.p) && eqEs a.cells b.cells
theorem Un.same_iff {a b : Un} : a.same b = true ↔ a = b := by
 rw [Un.same, Bool.and_eq_true, eqEs_iff, decide_eq_true_eq]
 constructor
 ·rintro ⟨h1, h2⟩
  cases a; cases b
  simp_all
 ·rintro rfl
  exact ⟨rfl, rfl⟩
structure Nd where (u : Un) (s : List UInt8) (w : List UInt8) (up : Bool)
def Nd.zero : Nd := ⟨Un.zero, [], [], false⟩
def recov (s t : List UInt8) : Un × Int := if ckDisk s t ≠ 0 then (Un.zero, ckDisk s t) else unitOf (recovered s t).2
def Nd.ck (n : Nd) : Int :=
 if ckDisk n.s n.w ≠ 0 then ckDisk n.s n.w else if n.up = true ∧ 0 < n.w.length then 4 else if (recov n.s []).2 ≠ 0 then (recov n.s []).2
 else if n.u.same (recov n.s []).1 = false then 4 else (recov n.s n.w).2
def Nd.whole (n : Nd) : Un := (recov n.s n.w).1
def behindB : Option (List En) → List En → Bool
 | none, _ => true
 | some l, u => withinB u l
def ckNds : Option (List En) → List Nd → Int
 | _, [] => 0
 | a, n :: r => if n.ck ≠ 0 then n.ck else if behindB a n.whole.cells = false then 4 else ckNds (some n.u.cells) r
def plcN (ns : List Nd) (k a : Nat) : En := plc (ns.map Nd.u) k a
def Cl.lost (ns : List Nd) (c : Cl) : Bool := decide (c.d = 2) && (decide (0 < c.l) && (plcN ns (c.l.toNat - 1) c.a.toNat).ne c.e)
def ckCls (ns : List Nd) : List Cl → Int
 | [] => 0
 | c :: r => if c.ck ≠ 0 then c.ck else if c.lost ns = true then 4 else ckCls ns r
structure Wd where (ns : List Nd) (tip : Int) (cs : List Cl) (t : Int)
def Wd.zero : Wd := ⟨[], 0, [], 0⟩
def Wd.ck (w : Wd) : Int :=
 if ¬ (w.ns.length = 3 ∧ w.cs.length = 3) then 4 else if ¬ ((0 ≤ w.tip ∧ w.tip ≤ 60) ∧ (0 ≤ w.t ∧ w.t ≤ 100000)) then 3
 else if ckNds none w.ns ≠ 0 then ckNds none w.ns else ckCls w.ns w.cs
def cnew : Cl := ⟨1, 0, En.zero, 0, 0, 0, [], []⟩
def nnew : Nd := ⟨unew, [], [], true⟩
def wnew : Wd := ⟨[nnew, nnew, nnew], 0, [cnew, cnew, cnew], 0⟩
structure Hp where (k : Int) (c : Int) (n : Int) (j : Int) (p : Int) (e : En)
def Nd.write (n : Nd) (r : Rc) : Nd × Int :=
 if (unext n.u r).2 ≠ 0 then (n, (unext n.u r).2) else if (dput n.s n.w r).2 ≠ 0 then (n, (dput n.s n.w r).2)
 else if (dsync (dput n.s n.w r).1.1 (dput n.s n.w r).1.2).2 ≠ 0 then (n, (dsync (dput n.s n.w r).1.1 (dput n.s n.w r).1.2).2)
 else (⟨(unext n.u r).1, (dsync (dput n.s n.w r).1.1 (dput n.s n.w r).1.2).1.1, (dsync (dput n.s n.w r).1.1 (dput n.s n.w r).1.2).1.2, n.up⟩, 0)
def Nd.writeAny (n : Nd) (r : Rc) : Nd × Int := if r.k = 0 then (n, 0) else n.write r
def Nd.boot (n : Nd) : Nd × Int :=
 if n.up = true then (n, 7) else if (recov n.s n.w).2 ≠ 0 then (n, (recov n.s n.w).2) else (⟨(recov n.s n.w).1, (recovered n.s n.w).1.1, [], true⟩, 0)
def keptOf (k : Int) (n : Nat) : Nat := min (max k 0).toNat n
def Nd.tear (n : Nd) (r : Rc) (k : Int) : Nd × Int :=
 if r.k = 0 then (n, 6) else if (dput n.s n.w r).2 ≠ 0 then (n, (dput n.s n.w r).2)
 else (⟨n.u, (dput n.s n.w r).1.1, (dput n.s n.w r).1.2.take (keptOf k (dput n.s n.w r).1.2.length), false⟩, 0)
def Wd.us (w : Wd) : List Un := w.ns.map Nd.u
def Wd.nd (w : Wd) (k : Int) : Nd := w.ns.getD k.toNat Nd.zero
def Wd.cl (w : Wd) (k : Int) : Cl := w.cs.getD k.toNat Cl.zero
def Wd.putN (w : Wd) (k : Int) (n : Nd) : Wd := ⟨w.ns.set k.toNat n, w.tip, w.cs, w.t⟩
def Wd.putC (w : Wd) (k : Int) (c : Cl) : Wd := ⟨w.ns, w.tip, w.cs.set k.toNat c, w.t⟩
def Wd.onN (w : Wd) (k : Int) (r : Nd × Int) : Wd × Int := if r.2 ≠ 0 then (w, r.2) else (w.putN k r.1, 0)
def Wd.onC (w : Wd) (k : Int) (r : Cl × Int) : Wd × Int := if r.2 ≠ 0 then (w, r.2) else (w.putC k r.1, 0)
def readIn (us : List Un) (a : Int) : En × Int :=
 if ¬ (0 ≤ a ∧ a ≤ 59) then (En.zero, 5) else if (plc us 2 a.toNat).isB = true then (En.zero, 7) else (plc us 2 a.toNat, 0)
def linkIn (us : List Un) (k a : Int) (x : En) (ep : Int) : Rc × En × Int :=
 if ¬ (0 ≤ k ∧ k ≤ 2) ∨ ¬ (0 ≤ a ∧ a ≤ 59) then (Rc.zero, En.zero, 5)
 else if x.chk ≠ 0 then (Rc.zero, En.zero, x.chk)
 else if (us.getD k.toNat Un.zero).p ≠ ep then (Rc.zero, En.zero, 8)
 else if 1 ≤ k ∧ x.ne (plc us (k.toNat - 1) a.toNat) = true then (Rc.zero, En.zero, 7)
 else if (plc us k.toNat a.toNat).isB = false then (Rc.zero, plc us k.toNat a.toNat, 0)
 else (⟨1, a, 0, x⟩, x, 0)
theorem readOf_in {us : List Un} (h : ckChain us = 0) (a : Int) : readOf us a = readIn us a := by
 rw [readOf, if_neg (by simpa using h)]; rfl
theorem linkOf_in {us : List Un} (h : ckChain us = 0) (k a : Int) (x : En) (ep : Int) : linkOf us k a x ep = linkIn us k a x ep := by
 rw [linkOf, if_neg (by simpa using h), linkIn]
 congr 4
 rw [← ne_false (x := x)]
 cases x.ne (plc us (k.toNat - 1) a.toNat) <;> simp
def tipOf (w : Wd) (n : Int) : Wd × Int := if ¬ (0 ≤ n ∧ n ≤ 60) then (w, 3) else (⟨w.ns, n, w.cs, w.t⟩, 0)
def tickOf (w : Wd) (n : Int) : Wd × Int := if ¬ (1 ≤ n ∧ n ≤ 100000 - w.t) then (w, 3) else (⟨w.ns, w.tip, w.cs, w.t + n⟩, 0)
def learnAt (w : Wd) (c p : Int) : Wd × Int := if ¬ (0 ≤ c ∧ c ≤ 2) then (w, 5) else w.onC c (learnOf (w.cl c) p)
def atNode (w : Wd) (x : Hp) : Wd × Int :=
 if ¬ (0 ≤ x.n ∧ x.n ≤ 2) then (w, 5) else if x.k = 13 then w.onN x.n (w.nd x.n).boot else if (w.nd x.n).up = false then (w, 7)
 else if x.k = 8 then w.onN x.n ((w.nd x.n).write ⟨2, 0, x.p, En.zero⟩) else if x.k = 9 then learnAt w x.c (w.nd x.n).u.p
 else (w.putN x.n ⟨(w.nd x.n).u, (w.nd x.n).s, (w.nd x.n).w, false⟩, 0)
def playAt (w : Wd) (c : Cl) : Cl × Int :=
 if c.n = 60 then (Cl.zero, 2) else if (w.nd 2).up = false then (Cl.zero, 7) else if (readIn w.us c.n).2 ≠ 0 then (Cl.zero, (readIn w.us c.n).2) else playOf c (readIn w.us c.n).1
def doesAt (w : Wd) (c : Cl) (x : Hp) : Cl × Int :=
 if x.k = 1 then (if x.e.k = 3 then (Cl.zero, 4) else wantOf c x.e) else if x.k = 2 then ringOf c x.c x.j w.t
 else if x.k = 3 then (if w.tip = 60 then (Cl.zero, 2) else placeOf 1 c w.tip) else if x.k = 6 then placeOf 0 c x.n else if x.k = 7 then playAt w c
 else (cnew, 0)
def atClient (w : Wd) (x : Hp) : Wd × Int :=
 if ¬ (0 ≤ x.c ∧ x.c ≤ 2) then (w, 5) else if (doesAt w (w.cl x.c) x).2 ≠ 0 then (w, (doesAt w (w.cl x.c) x).2)
 else (⟨w.ns, if x.k = 3 then w.tip + 1 else w.tip, w.cs.set x.c.toNat (doesAt w (w.cl x.c) x).1, w.t⟩, 0)
def hearAt (w : Wd) (who : Int) (c : Cl) (n : Nd) (r : Rc) (s : En) : Wd × Int :=
 if (n.writeAny r).2 ≠ 0 then (w, (n.writeAny r).2) else if (hearOf c s).2 ≠ 0 then (w, (hearOf c s).2) else ((w.putN c.l (n.writeAny r).1).putC who (hearOf c s).1, 0)
def goAt (w : Wd) (x : Hp) (c : Cl) (n : Nd) (L : Rc × En × Int) : Wd × Int :=
 if L.2.2 ≠ 0 then (w, L.2.2) else if x.k = 15 then w.onN c.l (n.tear L.1 x.n) else if x.k = 5 then w.onN c.l (n.writeAny L.1) else hearAt w x.c c n L.1 L.2.1
def atLink (w : Wd) (x : Hp) : Wd × Int :=
 if ¬ (0 ≤ x.c ∧ x.c ≤ 2) then (w, 5) else if (w.cl x.c).d ≠ 2 ∨ (w.nd (w.cl x.c).l).up = false then (w, 7)
 else goAt w x (w.cl x.c) (w.nd (w.cl x.c).l) (linkIn w.us (w.cl x.c).l (w.cl x.c).a (w.cl x.c).e (w.cl x.c).p)
def happened (w : Wd) (x : Hp) : Wd × Int :=
 if x.k = 10 then tipOf w x.n else if x.k = 11 then tickOf w x.n else if x.k = 8 ∨ x.k = 9 ∨ x.k = 12 ∨ x.k = 13 then atNode w x
 else if x.k = 4 ∨ x.k = 5 ∨ x.k = 15 then atLink w x else if x.k = 1 ∨ x.k = 2 ∨ x.k = 3 ∨ x.k = 6 ∨ x.k = 7 ∨ x.k = 14 then atClient w x else (w, 4)
def doOf (w : Wd) (x : Hp) : Wd × Int := if w.ck ≠ 0 then (Wd.zero, w.ck) else if (happened w x).2 ≠ 0 then (Wd.zero, (happened w x).2) else happened w x
def runL : Wd → List Hp → Wd × List Int
 | w, [] => (w, [])
 | w, x :: r => ((runL (happened w x).1 r).1, (happened w x).2 :: (runL (happened w x).1 r).2)
def runOf (w : Wd) (l : List Hp) : Wd × List Int × Int := if w.ck ≠ 0 then (Wd.zero, [], w.ck) else if 150 < l.length then (Wd.zero, [], 2) else ((runL w l).1, (runL w l).2, 0)
abbrev BkT (w : World) (v1 v2 : Value) (c : Cl) : Prop := BkAt w v1 v2 c ∧ (Typed 120 w v1 ∧ Typed 76 w v2)
theorem bkT_later {w w' : World} {v1 v2 : Value} {c : Cl} (h : BkT w v1 v2 c) (hb : Below w.heap.size w w') : BkT w' v1 v2 c := ⟨bkAt_later h.1 hb, h.2.1.later hb, h.2.2.later hb⟩
theorem bkT_nil (w : World) {c : Cl} (h : c.js = []) (h' : c.rs = []) : BkT w nil0 nil0 c := ⟨⟨by rw [h]; exact SlOf.nil _ _, by rw [h']; exact SlOf.nil _ _⟩, Typed.nil, Typed.nil⟩
theorem bkT_cong {w : World} {v1 v2 : Value} {c x : Cl} (h : BkT w v1 v2 c) (hj : x.js = c.js) (hr : x.rs = c.rs) : BkT w v1 v2 x := ⟨⟨by rw [hj]; exact h.1.1, by rw [hr]; exact h.1.2⟩, h.2⟩
abbrev boxZ : Obj := .cells #[.int .i64 0, .int .i64 0, .int .i64 0, .int .i64 0, .int .i64 0, .int .i64 0, .int .i64 0, .int .i64 0, .int .i64 0, .int .i64 0, .slice none 0 0, .slice none 0 0] 41
def IsC (w : World) (b : Nat) : Prop := ∃ cur, w.heap[b]? = some (.cells cur 41)
theorem isC_of {w : World} {b : Nat} {c : Cl} {v1 v2 : Value} (h : w.heap[b]? = some (boxC c v1 v2)) : IsC w b := ⟨_, h⟩
theorem isC_set {w : World} {b : Nat} (h : IsC w b) (i : Nat) (u : Value) : IsC (w.setCell ⟨b, i, none⟩ u) b := by
 obtain ⟨cur, h⟩ := h
 exact ⟨_, Joins.block_setCell h u⟩
theorem bkT_set {w : World} {b : Nat} {v1 v2 : Value} {c : Cl} (hb : IsC w b) (h : BkT w v1 v2 c) (i : Nat) (u : Value) : BkT (w.setCell ⟨b, i, none⟩ u) v1 v2 c := by
 obtain ⟨cur, hb⟩ := hb
 exact ⟨⟨h.1.1.other h.2.1 hb (by decide) i u, h.1.2.other h.2.2 hb (by decide) i u⟩, h.2.1.setCell _ _ _, h.2.2.setCell _ _ _⟩
theorem bkT_both {w : World} {b : Nat} {v1 v2 : Value} {c : Cl} (h : IsC w b ∧ BkT w v1 v2 c) (i : Nat) (u : Value) : IsC (w.setCell ⟨b, i, none⟩ u) b ∧ BkT (w.setCell ⟨b, i, none⟩ u) v1 v2 c := ⟨isC_set h.1 i u, bkT_set h.1 h.2 i u⟩
theorem bkT_st12 {w : World} {b : Nat} {v1 v2 : Value} {c : Cl} (hb : IsC w b) (h : BkT w v1 v2 c) (x : Cl) (u1 u2 : Value) : BkT (st12 w b x u1 u2) v1 v2 c := by
 have h0 : IsC w b ∧ BkT w v1 v2 c := ⟨hb, h⟩
 have h1 := bkT_both h0 0 (.int .i64 x.p)
 have h2 := bkT_both h1 1 (.int .i64 x.d)
 have h3 := bkT_both h2 2 (.int .i64 x.e.k)
 have h4 := bkT_both h3 3 (.int .i64 x.e.j)
 have h5 := bkT_both h4 4 (.int .i64 x.e.v)
 have h6 := bkT_both h5 5 (.int .i64 x.e.t)
 have h7 := bkT_both h6 6 (.int .i64 x.e.c)
 have h8 := bkT_both h7 7 (.int .i64 x.a)
 have h9 := bkT_both h8 8 (.int .i64 x.l)
 have h10 := bkT_both h9 9 (.int .i64 x.n)
 have h11 := bkT_both h10 10 (u1)
 have h12 := bkT_both h11 11 (u2)
 exact h12.2
abbrev AnsT (f : FuncId) (args : Array Value) (w : World) (r : Cl × Int) : Prop :=
 Calls Tryz.prog f args w fun e w' => ∃ u1 u2, e = .returned (.tuple #[r.1.val u1 u2, .int .i64 r.2]) ∧ BkT w' u1 u2 r.1 ∧ Below w.heap.size w w'
theorem ansT_zero {f : FuncId} {args : Array Value} {w : World} {n : Int} (h : AnsX f args w (Cl.zero, n) nil0 nil0) : AnsT f args w (Cl.zero, n) :=
 h.mono fun _ _ ⟨he, hB⟩ => ⟨nil0, nil0, he, bkT_nil _ rfl rfl, hB⟩
theorem ret1_client {fn : Func} {R : Ending → World → Prop} {a : Act} {W : World} {b p : Nat} {c : Cl} {v1 v2 : Value} (hf : fn.results = #[.cell p 41]) (hd : a.defers = [])
  (h2 : a.tmps.getD p undef = .pointer (some ⟨b, 0, none⟩)) (hR : W.heap[b]? = some (boxC c v1 v2)) (hp : R (.returned (c.val v1 v2)) W) :
  bodyPost Tryz.prog fn R .ret a W := by
 have c0 := fun i => Joins.cell_of_block hR i
 refine bodyPost_ret (v := c.val v1 v2) ?_ hd hp
 simp only [results, hf]
 simp at h2
 simp [go_sem, c0, h2]
theorem ret1_st {fn : Func} {R : Ending → World → Prop} {a : Act} {W : World} {p : Nat} (W0 : World) (b : Nat) (c : Cl) (v1 v2 : Value) {o : Cl} {u1 u2 : Value} (hf : fn.results = #[.cell p 41]) (hd : a.defers = [])
  (h2 : a.tmps.getD p undef = .pointer (some ⟨b, 0, none⟩)) (hR : W0.heap[b]? = some (boxC o u1 u2)) (hW : W = st12 W0 b c v1 v2) (hp : R (.returned (c.val v1 v2)) (st12 W0 b c v1 v2)) :
  bodyPost Tryz.prog fn R .ret a W := by
 rw [hW]
 exact ret1_client hf hd h2 (st12_box hR c v1 v2) hp
section
variable {P : Program}
theorem copy_cells (w : World) (dT sT ty elem : TypeId) (g o dLen dCap : Nat) (a : Addr) (sLen sCap : Nat) (cur : List Value) (t : TypeId) (k : Nat) (cs : List Value)
  (hu : P.underlying dT = some (.slice elem)) (hs : (P.info? elem).map (·.size) = some k)
  (hg : w.heap[g]? = some (.cells cur.toArray t (0, 0))) (hn : cs.length = Nat.min sLen dLen * k)
  (hsrc : ∀ j v, cs[j]? = some v → w.cell? (a.add j) = some v) (hfit : o + cs.length ≤ cur.length) (h1 : ∀ v ∈ cs, v.oneCell' = true) :
  (Builtin.copy_ #[dT, sT] ty #[.slice (some ⟨g, o, none⟩) dLen dCap, .slice (some a) sLen sCap]).run P w =
   .ok (goInt (Nat.min sLen dLen)) (w.setRow g (splice cur o cs).toArray) := by
 have hl := run_firstCells_some (P := P) w k (Nat.min sLen dLen) a sLen sCap cs hn hsrc
 have hst := run_storeCells_at P g o t cs 0 cur.toArray w hg (by simpa using hfit) h1
 cases hq : P.info? elem with
 | none => simp [hq] at hs
 | some i =>
  have hi : i.size = k := by simpa [hq] using hs
  simp only [Nat.add_zero] at hst
  simp [Builtin.copy_, run_underlying hu, Builtin.lenOf, sizeOf, typeInfo, hq, hi, hl, hst, splice]
theorem copy_nothing (w : World) (dT sT ty elem : TypeId) (d a : Option Addr) (dLen dCap sLen sCap k : Nat) (hu : P.underlying dT = some (.slice elem)) (hs : (P.info? elem).map (·.size) = some k) (hn : Nat.min sLen dLen = 0) :
  (Builtin.copy_ #[dT, sT] ty #[.slice d dLen dCap, .slice a sLen sCap]).run P w = .ok (goInt 0) w := by
 cases hq : P.info? elem with
 | none => simp [hq] at hs
 | some i =>
  have hf : (Builtin.firstCells i.size 0 (.slice a sLen sCap)).run P w = .ok #[] w := by
   cases a with
   | none => exact run_firstCells_none w i.size 0 sLen sCap
   | some a => exact run_firstCells_some w i.size 0 a sLen sCap [] (by simp) (fun j v h => by simp at h)
  cases d <;> simp [Builtin.copy_, run_underlying hu, Builtin.lenOf, sizeOf, typeInfo, hq, hn, hf, storeCells]
theorem wpList_copyK {w : World} {ops : Array Oper} {rest : List Oper} {o : Oper} {a : Act} {Q : Exit → Act → World → Prop} (hgd : o.guard = none) (d s : Operand) (dT sT : TypeId)
  (ho : o.op = .call { callee := .builtin .copy, args := #[d, s], argTypes := #[dT, sT] }) (elem : TypeId) (k : Nat) (hu : P.underlying dT = some (.slice elem)) (hsz : (P.info? elem).map (·.size) = some k)
  (dp sp : Option Addr) (dLen dCap sLen sCap : Nat) (hd : a.eval d = .slice dp dLen dCap) (hs : a.eval s = .slice sp sLen sCap)
  (g off : Nat) (cur : List Value) (t : TypeId) (hg : w.heap[g]? = some (.cells cur.toArray t (0, 0))) (cs : List Value) (hn : cs.length = Nat.min sLen dLen * k)
  (hpos : 0 < Nat.min sLen dLen → dp = some ⟨g, off, none⟩ ∧ ∃ ad, sp = some ad ∧ ∀ j v, cs[j]? = some v → w.cell? (ad.add j) = some v)
  (hfit : off + cs.length ≤ cur.length) (h1 : ∀ v ∈ cs, v.oneCell' = true) (B : Nat) (w0 : World) (hb : Below B w0 w) (hBg : B ≤ g)
  (h : ∀ w', Hid (w'.heap[g]? = some (.cells (splice cur off cs).toArray t (0, 0))) → Below B w0 w' → wpList P ops Q rest (a.put o.dst (goInt (Nat.min sLen dLen))) w') :
  wpList P ops Q (o :: rest) a w := by
 refine wpList_plain hgd fun K hK => ?_
 by_cases h0 : Nat.min sLen dLen = 0
 ·obtain rfl : cs = [] := List.eq_nil_of_length_eq_zero (by rw [hn, h0, Nat.zero_mul])
  have hrun := copy_nothing (P := P) w dT sT o.type elem dp sp dLen dCap sLen sCap k hu hsz h0
  unfold Oper.wp
  simp [execOp, ho, resolve, invoke, builtin, hd, hs, hrun, Result.andThen]
  rw [h0] at h
  exact hK _ _ (h w (show _ = _ by simpa [splice] using hg) hb)
 ·obtain ⟨rfl, ad, rfl, hsrc⟩ := hpos (by omega)
  have hrun := copy_cells (P := P) w dT sT o.type elem g off dLen dCap ad sLen sCap cur t k cs hu hsz hg hn hsrc hfit h1
  unfold Oper.wp
  simp [execOp, ho, resolve, invoke, builtin, hd, hs, hrun, Result.andThen]
  exact hK _ _ (h _ (show _ = _ from setRow_heap w g _ _ t _ hg) (below_setRow hb hBg _))
theorem step_copyK {ops : Array Oper} {o : Oper} {a : Act} {w : World} {K : Act → World → Prop} {Q : Exit → Act → World → Prop} {E : Prop} (hgd : o.guard = none) (d s : Operand) (dT sT : TypeId)
  (ho : o.op = .call { callee := .builtin .copy, args := #[d, s], argTypes := #[dT, sT] }) (elem : TypeId) (k : Nat) (hu : P.underlying dT = some (.slice elem)) (hsz : (P.info? elem).map (·.size) = some k)
  (dp sp : Option Addr) (dLen dCap sLen sCap : Nat) (hd : a.eval d = .slice dp dLen dCap) (hs : a.eval s = .slice sp sLen sCap)
  (g off : Nat) (cur : List Value) (t : TypeId) (hg : w.heap[g]? = some (.cells cur.toArray t (0, 0))) (cs : List Value) (hn : cs.length = Nat.min sLen dLen * k)
  (hpos : 0 < Nat.min sLen dLen → dp = some ⟨g, off, none⟩ ∧ ∃ ad, sp = some ad ∧ ∀ j v, cs[j]? = some v → w.cell? (ad.add j) = some v)
  (hfit : off + cs.length ≤ cur.length) (h1 : ∀ v ∈ cs, v.oneCell' = true) (B : Nat) (w0 : World) (hb : Below B w0 w) (hBg : B ≤ g)
  (h : ∀ w', Hid (w'.heap[g]? = some (.cells (splice cur off cs).toArray t (0, 0))) → Below B w0 w' → K (a.put o.dst (goInt (Nat.min sLen dLen))) w') :
  if Region.wanted o (yielded ops a.tmps) = true then Oper.wp P o a w K Q else E := by
 have hw : Region.wanted o (yielded ops a.tmps) = true := by simp [Region.wanted, hgd]
 rw [if_pos hw]
 by_cases h0 : Nat.min sLen dLen = 0
 ·obtain rfl : cs = [] := List.eq_nil_of_length_eq_zero (by rw [hn, h0, Nat.zero_mul])
  have hrun := copy_nothing (P := P) w dT sT o.type elem dp sp dLen dCap sLen sCap k hu hsz h0
  unfold Oper.wp
  simp [execOp, ho, resolve, invoke, builtin, hd, hs, hrun, Result.andThen]
  rw [h0] at h
  exact h w (show _ = _ by simpa [splice] using hg) hb
 ·obtain ⟨rfl, ad, rfl, hsrc⟩ := hpos (by omega)
  have hrun := copy_cells (P := P) w dT sT o.type elem g off dLen dCap ad sLen sCap cur t k cs hu hsz hg hn hsrc hfit h1
  unfold Oper.wp
  simp [execOp, ho, resolve, invoke, builtin, hd, hs, hrun, Result.andThen]
  exact h _ (show _ = _ from setRow_heap w g _ _ t _ hg) (below_setRow hb hBg _)
end
theorem splice_all {α : Type} {L cs : List α} (h : L.length = cs.length) : splice L 0 cs = cs := by
 simp [splice, ← h]
theorem sizeE : (Tryz.prog.info? 27).map (·.size) = some 5 := by kernel_rfl
end Go.Proofs.YtmoaobfmopimlafGreatDoor
