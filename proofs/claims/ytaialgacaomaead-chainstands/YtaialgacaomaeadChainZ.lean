/- Package chain keeps what the laws ask of it; package unit, too. -/
import Derived.Test.YtaialgacaomaeadChainZc
import Derived.Test.YtaialgacaomaeadChainZd
import Derived.Test.YtaialgacaomaeadChainG
import Derived.Test.YtaialgacaomaeadUnitZd
namespace Go.Proofs.Ytaialgacaomaead
open Go.RowKit
open scoped Classical

theorem chains_any : Chains where
  check := fun v xs W h _ => chCheck_any v xs W h
  link := fun v xs k a ep x W h _ => chLink_any v xs k a ep x W h
  read := fun v xs a W h _ => chRead_any v xs a W h

theorem unitN_any : UnitN where
  new := unitNew_any
  next := fun v u r W h _ => (unitNext_any v u r W h).mono fun _ _ ⟨v', he, h1, h2, h3⟩ => ⟨v', he, h1, h2, fun g hg => Or.inl (h3 g hg)⟩

end Go.Proofs.Ytaialgacaomaead
