/-
  What width's mayStep and fieldsOf.. do.
  What width's noughts, split, whole, fraction and digits do, out of what they call.
  What width's split, whole, fraction and digits answer, by the document's words.
-/
import Derived.Test.YtobloamnaemfnaaGreatDoorTB10
import Derived.Test.YtobloamnaemfnaaGreatDoorTB12
import Derived.Deep.RegionHeld3
namespace Go.Proofs.YtobloamnaemfnaaGreatDoor
open Go.RowKit

theorem nil_size {t : ByteArray} (h : t.size = 0) : t = ⟨#[]⟩ := by
  have h2 : bys t = [] := bys_nil.2 h
  rw [← mk_bys t, h2]
theorem nil_bys {t : ByteArray} (h : bys t = []) : t = ⟨#[]⟩ := nil_size (bys_nil.1 h)

end Go.Proofs.YtobloamnaemfnaaGreatDoor

namespace Go.Proofs.YtobloamnaemfnaaGreatDoor
open Go.RowKit

end Go.Proofs.YtobloamnaemfnaaGreatDoor

namespace Go.Proofs.YtobloamnaemfnaaGreatDoor
open Go.RowKit

end Go.Proofs.YtobloamnaemfnaaGreatDoor
