/-
  What width's mayStep and fieldsOf.. do.
-/
import Derived.Test.YtbfegnbaleclfaaGreatDoorAB13
import Derived.Test.YtbfegnbaleclfaaGreatDoorAB17
namespace Go.Proofs.YtbfegnbaleclfaaGreatDoor
open Go.RowKit

theorem nil_size {t : ByteArray} (h : t.size = 0) : t = ⟨#[]⟩ := by
  have h2 : bys t = [] := bys_nil.2 h
  rw [← mk_bys t, h2]
theorem nil_bys {t : ByteArray} (h : bys t = []) : t = ⟨#[]⟩ := nil_size (bys_nil.1 h)

end Go.Proofs.YtbfegnbaleclfaaGreatDoor
