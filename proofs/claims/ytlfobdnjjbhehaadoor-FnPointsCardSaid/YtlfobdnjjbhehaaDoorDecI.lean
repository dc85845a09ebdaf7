/-
  Decimal of the program: the numeral of Go's library, by its contract; it reads the library's table of powers of ten, which the row lists. Conditions: the number is an int64.
-/
import Derived.Test.YtlfobdnjjbhehaaDoorDec
import Derived.Test.YtlfobdnjjbhehaaDoorCard
import Derived.Test.YtlfobdnjjbhehaaDoorShelfF
import Derived.Lib.AppendIntMem
import Derived.WalkSmall
import Derived.Stop.LaidErr
namespace Go.Proofs.YtlfobdnjjbhehaaDoor
open Go.RowKit

/-- The table of powers of ten reads as Go's library lays it. -/
def Tab (w : World) : Prop := Lib.TabIs Tryd.prog w "internal/strconv.uint64pow10" .u64 Lib.pow10Tab
theorem gTab : Tryd.prog.globalNamed "internal/strconv.uint64pow10" = some 2 := by kernel_rfl
theorem Tab.lt {w : World} (h : Tab w) : 2 < w.heap.size :=
  World.block_lt_of_cell? w ⟨2, 0, none⟩ (Lib.TabIs.cell h gTab 0 (by decide))
theorem Tab.below {W w : World} {B : Nat} (h : Tab W) (hb : Below B W w) (hB : 2 < B) : Tab w := var?_below hb gTab hB h
theorem tab_of {W : World} {d1 d2 : String × DataW Unit} {rest : List (String × DataW Unit)} (hL : laidMet Tryd.prog (d1 :: d2 :: ("internal/strconv.uint64pow10", Rows.laid_internal_strconv_uint64pow10) :: rest) W) : Tab W :=
  Lib.tabIs_of_head (rest := rest) gTab (by kernel_rfl) Tryd.underlying78 Tryd.underlying47 (by kernel_rfl) (by kernel_rfl) (Go.laidMet.tail (Go.laidMet.tail hL))

theorem implDecimal_any (n : Int) (w : World) (hT : Tab w) (h1 : -9223372036854775808 ≤ n) (h2 : n ≤ 9223372036854775807) :
    Calls Tryd.prog 23 #[.int .i64 n] w fun e w' => e = .returned (.string ⟨(Lib.itoa n).toArray⟩) ∧ Below w.heap.size w w' := by
  have HT : Hid (Tab w) := Lib.hid hT
  clear hT
  go_enter Tryd.func23, Tryd.ntmps23
  go_wp2_with fail
  refine (Tryd.strconv_FormatInt_10 n h1 h2 _ HT.out).mono ?_
  rintro e w' ⟨rfl, k, os, rfl⟩
  go_wp2
  go_ret
  exact ⟨rfl, Lib.below_grow _ _ (Nat.le_refl _) _ _⟩
end Go.Proofs.YtlfobdnjjbhehaaDoor
