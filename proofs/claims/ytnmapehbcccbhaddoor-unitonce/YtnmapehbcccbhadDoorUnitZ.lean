/- Package unit keeps what the laws ask of it. -/
import Derived.Test.YtnmapehbcccbhadDoorUnitZd
import Derived.Test.YtnmapehbcccbhadDoorUnitH
namespace Go.Proofs.YtnmapehbcccbhadDoor
open Go.RowKit
open scoped Classical

theorem units_any : Units where
  new := unitNew_any
  check := fun v u W h _ => unitCheck_any v u W h.ents
  tail := fun v u W h hn => unitTail_any v u W h.ents hn
  same := fun v v' u x W h h' hn _ => unitSame_any v v' u x W h.ents h'.ents hn
  next := fun v u r W h _ => (unitNext_any v u r W h).mono fun _ _ ⟨v', he, h1, h2, _⟩ => ⟨v', he, h1, h2⟩
  replay := fun v rs W h _ _ => (unitReplay_any v rs W h).mono fun _ _ ⟨v', he, h1, h2, _⟩ => ⟨v', he, h1, h2⟩

end Go.Proofs.YtnmapehbcccbhadDoor
