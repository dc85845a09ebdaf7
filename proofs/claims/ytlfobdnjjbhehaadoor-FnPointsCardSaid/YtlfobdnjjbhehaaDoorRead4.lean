/-
  ReadDecimal, the program's: what it returns for every string. Conditions: the string is no longer than a slice may be; the library's tables and errors read as its text lays them.
-/
import Derived.Test.YtlfobdnjjbhehaaDoorRead3
import Derived.Test.YtlfobdnjjbhehaaDoorFrac
import Derived.Test.YtlfobdnjjbhehaaDoorShelfP
import Derived.Lib.AtoiErrMem
namespace Go.Proofs.YtlfobdnjjbhehaaDoor
open Go.RowKit

/-- The library's two errors of strconv hold values of their own. -/
structure Errs (w : World) : Prop where
  syn : ∃ tp p, w.var? Tryd.prog "strconv.ErrSyntax" = some #[.iface tp p]
  rng : ∃ tp p, w.var? Tryd.prog "strconv.ErrRange" = some #[.iface tp p]
theorem gSyn : Tryd.prog.globalNamed "strconv.ErrSyntax" = some 3 := by kernel_rfl
theorem gRng : Tryd.prog.globalNamed "strconv.ErrRange" = some 4 := by kernel_rfl
theorem Errs.below {W w : World} {B : Nat} (h : Errs W) (hb : Below B W w) (h1 : 3 < B) (h2 : 4 < B) : Errs w := by
  obtain ⟨t1, p1, e1⟩ := h.syn
  obtain ⟨t2, p2, e2⟩ := h.rng
  exact ⟨⟨t1, p1, var?_below hb gSyn h1 e1⟩, ⟨t2, p2, var?_below hb gRng h2 e2⟩⟩

theorem num_of_parse {l : List UInt8} {n : Int} (h : Num l n) : Lib.parseIntB 64 l = .ok n := by
  obtain ⟨⟨h1, h2⟩, rfl⟩ := h
  exact parse_itoa n h1 h2

set_option maxHeartbeats 1000000 in
set_option maxRecDepth 100000 in
theorem implRead_any (s : ByteArray) (w : World) (hT : Tab w) (hE : Errs w) (hmax : s.size ≤ 9223372036854775807) :
    Calls Tryd.prog 26 #[.string s] w fun e w' => e = .returned (.tuple #[.int .i64 (rdR s.data.toList), .bool (rdB s.data.toList)]) ∧ Below w.heap.size w w' := by
  by_cases h2 : 11 < s.size
  · have K : Hid (rdB s.data.toList = false ∧ rdR s.data.toList = 0) := Lib.hid (rd_no fun n hn => by have := (num_val hn).2.2.2; rw [list_len] at this; omega)
    have h2' : (11 : Int) < s.size := by omega
    clear hT hE
    go_enter Tryd.func26, Tryd.ntmps26
    go_wp2
    go_ret2
    exact ⟨ret_rd K.out.2.symm K.out.1.symm, Below.refl _ _⟩
  · have h2' : ¬ (11 : Int) < s.size := by omega
    have hlt := hT.lt
    have HT := Lib.hid hT
    obtain ⟨⟨t1, p1, e1⟩, ⟨t2, p2, e2⟩⟩ := hE
    have E1 := Lib.hid e1
    have E2 := Lib.hid e2
    clear hT e1 e2
    cases hp : Lib.parseIntB 64 s.data.toList with
    | «syntax» =>
      have K : Hid (rdB s.data.toList = false ∧ rdR s.data.toList = 0) := Lib.hid (rd_no fun n hn => by rw [num_of_parse hn] at hp; cases hp)
      have HP := Lib.hid hp
      clear hp
      go_enter Tryd.func26, Tryd.ntmps26
      go_wp2_with fail
      refine (Tryd.strconv_ParseInt_10_at64_syntax_var s (by omega) HP.out t1 p1 _ E1.out).mono ?_
      rintro e w1 ⟨N, rfl, -, -, hb1⟩
      go_wp2
      go_ret2
      exact ⟨ret_rd K.out.2.symm K.out.1.symm, hb1⟩
    | range =>
      have K : Hid (rdB s.data.toList = false ∧ rdR s.data.toList = 0) := Lib.hid (rd_no fun n hn => by rw [num_of_parse hn] at hp; cases hp)
      have HP := Lib.hid hp
      clear hp
      go_enter Tryd.func26, Tryd.ntmps26
      go_wp2_with fail
      refine (Tryd.strconv_ParseInt_10_at64_range_var s (by omega) HP.out t2 p2 _ E2.out).mono ?_
      rintro e w1 ⟨N, rfl, -, -, hb1⟩
      go_wp2
      go_ret2
      exact ⟨ret_rd K.out.2.symm K.out.1.symm, hb1⟩
    | ok v =>
      have HP := Lib.hid hp
      cases hI : inB v (-1000000000) 1000000000
      · have K : Hid (rdB s.data.toList = false ∧ rdR s.data.toList = 0) := Lib.hid (rd_no fun n hn => by
          rw [num_of_parse hn] at hp
          injection hp with hp
          subst hp
          rw [inB_yes hn.1.1 hn.1.2] at hI; cases hI)
        clear hp
        go_enter Tryd.func26, Tryd.ntmps26
        go_wp2_with fail
        refine (Tryd.strconv_ParseInt_10_at64_ok s (by omega) v HP.out _).mono ?_
        rintro e w1 ⟨rfl, hw1⟩
        have hb1 : Below w.heap.size w w1 := by
          rcases hw1 with rfl | ⟨t, rfl⟩
          · exact Below.refl _ _
          · exact Lib.bytesWorld_below _ _ _
        clear hw1
        go_wp2_with (go_at_call 35; refine (withinFrac_any _ _).mono ?_; rintro e w' ⟨rfl, rfl⟩)
        go_ret2
        exact ⟨ret_rd K.out.2.symm K.out.1.symm, hb1⟩
      · have hbnd := inB_iff.1 hI
        by_cases hE : Lib.itoa v = s.data.toList
        · have K : Hid (rdB s.data.toList = true ∧ rdR s.data.toList = v) := Lib.hid (rd_of (n := v) ⟨hbnd, hE⟩)
          have hne : (Lib.itoa v == s.toList) = true := by rw [ByteArray.toList_eq]; exact beq_iff_eq.2 hE
          clear hp hE
          go_enter Tryd.func26, Tryd.ntmps26
          go_wp2_with fail
          refine (Tryd.strconv_ParseInt_10_at64_ok s (by omega) v HP.out _).mono ?_
          rintro e w1 ⟨rfl, hw1⟩
          have hb1 : Below w.heap.size w w1 := by
            rcases hw1 with rfl | ⟨t, rfl⟩
            · exact Below.refl _ _
            · exact Lib.bytesWorld_below _ _ _
          have s1 := hb1.size
          clear hw1
          go_wp2_with (first | (go_at_call 35; refine (withinFrac_any _ _).mono ?_; rintro e w' ⟨rfl, rfl⟩) | (go_at_call 23; fail))
          refine (implDecimal_any v _ (HT.out.below hb1 hlt) (by omega) (by omega)).mono ?_
          rintro e w2 ⟨rfl, hb2⟩
          go_wp2
          go_ret2
          exact ⟨ret_rd K.out.2.symm K.out.1.symm, by (repeat (first | exact Below.refl _ _ | refine Below.setCell ?_ (by first | (simp; done) | (simp; omega) | omega) _ | refine belowN ?_ _ | refine Below.drew ?_ | refine Below.alloc ?_ (by first | (simp; done) | (simp; omega) | omega) _ | refine Below.trans ?_ (Below.mono (by assumption) (by first | (simp; done) | (simp; omega) | omega))))⟩
        · have K : Hid (rdB s.data.toList = false ∧ rdR s.data.toList = 0) := Lib.hid (rd_no fun n hn => by
            rw [num_of_parse hn] at hp
            injection hp with hp
            subst hp
            exact hE hn.2)
          have hne : (Lib.itoa v == s.toList) = false := by rw [ByteArray.toList_eq]; exact beq_eq_false_iff_ne.2 hE
          clear hp hE
          go_enter Tryd.func26, Tryd.ntmps26
          go_wp2_with fail
          refine (Tryd.strconv_ParseInt_10_at64_ok s (by omega) v HP.out _).mono ?_
          rintro e w1 ⟨rfl, hw1⟩
          have hb1 : Below w.heap.size w w1 := by
            rcases hw1 with rfl | ⟨t, rfl⟩
            · exact Below.refl _ _
            · exact Lib.bytesWorld_below _ _ _
          have s1 := hb1.size
          clear hw1
          go_wp2_with (first | (go_at_call 35; refine (withinFrac_any _ _).mono ?_; rintro e w' ⟨rfl, rfl⟩) | (go_at_call 23; fail))
          refine (implDecimal_any v _ (HT.out.below hb1 hlt) (by omega) (by omega)).mono ?_
          rintro e w2 ⟨rfl, hb2⟩
          go_wp2
          go_ret2
          exact ⟨ret_rd K.out.2.symm K.out.1.symm, by (repeat (first | exact Below.refl _ _ | refine Below.setCell ?_ (by first | (simp; done) | (simp; omega) | omega) _ | refine belowN ?_ _ | refine Below.drew ?_ | refine Below.alloc ?_ (by first | (simp; done) | (simp; omega) | omega) _ | refine Below.trans ?_ (Below.mono (by assumption) (by first | (simp; done) | (simp; omega) | omega))))⟩
end Go.Proofs.YtlfobdnjjbhehaaDoor
