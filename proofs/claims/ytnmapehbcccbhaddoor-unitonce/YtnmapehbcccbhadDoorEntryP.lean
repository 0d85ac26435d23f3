/- What the rows' lists give; an entry among the arguments, opened and shut. -/
import Derived.Test.YtnmapehbcccbhadDoorEntryO
import Derived.OpenShut
import Derived.LaidMore
import Derived.Lay
import Derived.Lib.LaidTab
import Derived.Stop.LaidErr
import Derived.Deep.DeepHandedRow
import Derived.ChangeMaps5
import Derived.Carry
namespace Go.Proofs.YtnmapehbcccbhadDoor
open Go.ChangeShapes Go.WideShapes Go.ChangeAt Go.RowKit

theorem own : ownKnob Tryd.prog.godebug = none := by kernel_rfl
theorem laidOut : laidOutB Tryd.prog = true := by kernel_rfl
theorem cE : Tryd.prog.cellsOf 28 = 5 := by kernel_rfl
theorem cI : Tryd.prog.cellsOf 3 = 1 := by kernel_rfl
theorem cS : Tryd.prog.cellsOf 9 = 1 := by kernel_rfl
theorem cU : Tryd.prog.cellsOf 104 = 1 := by kernel_rfl
theorem gNamesT : (Tryd.prog.globals[0]?).map (·.type) = some 84 := by kernel_rfl
theorem gCountsT : (Tryd.prog.globals[1]?).map (·.type) = some 87 := by kernel_rfl
theorem gPowT : (Tryd.prog.globals[3]?).map (·.type) = some 116 := by kernel_rfl
theorem gSynT : (Tryd.prog.globals[6]?).map (·.type) = some 94 := by kernel_rfl
theorem gRngT : (Tryd.prog.globals[7]?).map (·.type) = some 94 := by kernel_rfl

theorem bytes_of {s : ByteArray} {l : List UInt8} (h : s.data.toList = l) : s = ⟨l.toArray⟩ := by
  obtain ⟨⟨x⟩⟩ := s
  subst h; rfl

theorem names_of {W : World} {rest : List (String × DataW Unit)} (h : laidMet Tryd.prog (("carillon/entry.names", Rows.laid_carillon_entry_names) :: rest) W) :
    W.var? Tryd.prog "carillon/entry.names" = some #[.string bJunk, .string bPut, .string bDrop, .string bRing] := by
  obtain ⟨ps, ⟨g, t, cs, fuel, p, q, hg, ht, hv, hd, _, _⟩, _⟩ := h
  obtain rfl := Option.some.inj (gNames.symm.trans hg)
  obtain rfl := Option.some.inj (gNamesT.symm.trans ht)
  obtain ⟨xs, m, _, ex, hcl, hl, hel⟩ := DataW.trod_array Tryd.underlying84 hd
  rw [cS] at hel
  rw [show Tryd.prog.cellsOf 84 = 4 by kernel_rfl] at hcl
  obtain ⟨l⟩ := cs
  match xs, hl, l, hcl with
  | [x0, x1, x2, x3], _, [y0, y1, y2, y3], _ =>
    obtain ⟨s0, e0, f0, _⟩ := DataW.trod_string Tryd.underlying9 (hel 0 (by omega))
    obtain ⟨s1, e1, f1, _⟩ := DataW.trod_string Tryd.underlying9 (hel 1 (by omega))
    obtain ⟨s2, e2, f2, _⟩ := DataW.trod_string Tryd.underlying9 (hel 2 (by omega))
    obtain ⟨s3, e3, f3, _⟩ := DataW.trod_string Tryd.underlying9 (hel 3 (by omega))
    simp at e0 e1 e2 e3
    subst e0 e1 e2 e3 f0 f1 f2 f3
    have ex := (Prod.mk.inj ex).1
    simp only [Rows.laid_carillon_entry_names, List.map_cons, List.map_nil, DataW.agg.injEq, List.cons.injEq, DataW.lit.injEq, Lit.string.injEq, and_true] at ex
    obtain ⟨h0, h1, h2, h3⟩ := ex
    rw [hv, bytes_of h0.symm, bytes_of h1.symm, bytes_of h2.symm, bytes_of h3.symm]

theorem counts_of {W : World} {rest : List (String × DataW Unit)} (h : laidMet Tryd.prog (("carillon/entry.counts", Rows.laid_carillon_entry_counts) :: rest) W) :
    W.var? Tryd.prog "carillon/entry.counts" = some #[.int .i64 0, .int .i64 3, .int .i64 1, .int .i64 3] :=
  Lib.tabIs_of_head (zs := [0, 3, 1, 3]) gCounts gCountsT Tryd.underlying87 Tryd.underlying3 cI (by kernel_rfl) h

theorem pow_of {W : World} {rest : List (String × DataW Unit)} (h : laidMet Tryd.prog (("internal/strconv.uint64pow10", Rows.laid_internal_strconv_uint64pow10) :: rest) W) :
    Lib.TabIs Tryd.prog W "internal/strconv.uint64pow10" .u64 Lib.pow10Tab :=
  Lib.tabIs_of_head (zs := Lib.pow10Tab) gPow gPowT Tryd.underlying116 Tryd.underlying104 cU (by kernel_rfl) h

theorem cErr : Tryd.prog.cellsOf 155 = 1 := by kernel_rfl
theorem star : "*" ++ "errors.errorString" = "*errors.errorString" := by decide
theorem rowErr (u : TypeId) (h : Tryd.prog.typeName? 3 u = some "*errors.errorString") : u = 153 :=
  typeName_ptr_named (nm := "errors.errorString") (by rw [star]; kernel_rfl) (by kernel_rfl) (by decide) u (by rw [star]; exact h)

theorem syn_of {W : World} {rest : List (String × DataW Unit)} (h : laidMet Tryd.prog (("strconv.ErrSyntax", Rows.laid_strconv_ErrSyntax) :: rest) W) : ∃ tp p, W.var? Tryd.prog "strconv.ErrSyntax" = some #[.iface tp p] := by
  obtain ⟨a0, s0, hv0, -, -, -⟩ := laid_sentinel h gSyn gSynT Tryd.underlying94 rowErr Tryd.underlying153 Tryd.underlying155 rfl rfl Tryd.underlying9 cErr cS
  exact ⟨_, _, hv0⟩
theorem rng_of {W : World} {rest : List (String × DataW Unit)} (h : laidMet Tryd.prog (("strconv.ErrRange", Rows.laid_strconv_ErrRange) :: rest) W) : ∃ tp p, W.var? Tryd.prog "strconv.ErrRange" = some #[.iface tp p] := by
  obtain ⟨a0, s0, hv0, -, -, -⟩ := laid_sentinel h gRng gRngT Tryd.underlying94 rowErr Tryd.underlying153 Tryd.underlying155 rfl rfl Tryd.underlying9 cErr cS
  exact ⟨_, _, hv0⟩

theorem most_of {W : World} (h : W.ShapedOpen Tryd.prog) : ∃ m, W.cell? ⟨2, 0, none⟩ = some (.int .i64 m) := Tryd.laysM145.s1_3 W h

theorem array5 {α : Type} {cs : Array α} (h : cs.size = 5) : ∃ c0 c1 c2 c3 c4, cs = #[c0, c1, c2, c3, c4] := by
  obtain ⟨l⟩ := cs
  match l, h with
  | [c0, c1, c2, c3, c4], _ => exact ⟨c0, c1, c2, c3, c4, rfl⟩

/-- An entry as a datum. -/
abbrev En.data {H : Type} (e : En) : DataW H := .agg [.lit (.int .i64 e.k), .lit (.int .i64 e.j), .lit (.int .i64 e.v), .lit (.int .i64 e.t), .lit (.int .i64 e.c)]

section
variable {H : Type} {enc : TypeId × Value → H} {w : World} {base : Nat} {spare : Nat → Bool} {held : Bool}
set_option maxRecDepth 100000 in
theorem open_entry {r : Reach} {b0 : Nat} {v : Value} {d : DataW H} {p : List MemPlace} (hv : Value.okWide Tryd.prog w r b0 28 v) (h : DataW.Trod enc Tryd.prog w base spare held 28 v d p) :
    ∃ e : En, v = e.val ∧ d = e.data ∧ p = [] := by
  obtain ⟨cs, rfl, hsz⟩ := okWide_struct Tryd.underlying28 hv
  obtain ⟨c0, c1, c2, c3, c4, rfl⟩ := array5 (hsz.trans cE)
  obtain ⟨fuel, hf⟩ := h
  obtain ⟨xs, n, _, hx, _, hlen, hel⟩ := DataW.trod_struct Tryd.underlying28 hf
  match xs, hlen with
  | [y0, y1, y2, y3, y4], _ =>
    have k0 : DataW.trod enc Tryd.prog w base spare held n 3 (List.take (Tryd.prog.cellsOf 3) (List.drop 0 [c0, c1, c2, c3, c4])) = some y0 := hel 0 _ rfl
    have k1 : DataW.trod enc Tryd.prog w base spare held n 3 (List.take (Tryd.prog.cellsOf 3) (List.drop 1 [c0, c1, c2, c3, c4])) = some y1 := hel 1 _ rfl
    have k2 : DataW.trod enc Tryd.prog w base spare held n 3 (List.take (Tryd.prog.cellsOf 3) (List.drop 2 [c0, c1, c2, c3, c4])) = some y2 := hel 2 _ rfl
    have k3 : DataW.trod enc Tryd.prog w base spare held n 3 (List.take (Tryd.prog.cellsOf 3) (List.drop 3 [c0, c1, c2, c3, c4])) = some y3 := hel 3 _ rfl
    have k4 : DataW.trod enc Tryd.prog w base spare held n 3 (List.take (Tryd.prog.cellsOf 3) (List.drop 4 [c0, c1, c2, c3, c4])) = some y4 := hel 4 _ rfl
    rw [cI] at k0 k1 k2 k3 k4
    obtain ⟨a0, e0, f0, _⟩ := DataW.trod_int Tryd.underlying3 k0
    obtain ⟨a1, e1, f1, _⟩ := DataW.trod_int Tryd.underlying3 k1
    obtain ⟨a2, e2, f2, _⟩ := DataW.trod_int Tryd.underlying3 k2
    obtain ⟨a3, e3, f3, _⟩ := DataW.trod_int Tryd.underlying3 k3
    obtain ⟨a4, e4, f4, _⟩ := DataW.trod_int Tryd.underlying3 k4
    simp at e0 e1 e2 e3 e4
    subst e0 e1 e2 e3 e4
    subst f0 f1 f2 f3 f4
    exact ⟨⟨a0, a1, a2, a3, a4⟩, rfl, by simpa using (Prod.mk.inj hx).1, by simpa using (Prod.mk.inj hx).2⟩
end

end Go.Proofs.YtnmapehbcccbhadDoor
