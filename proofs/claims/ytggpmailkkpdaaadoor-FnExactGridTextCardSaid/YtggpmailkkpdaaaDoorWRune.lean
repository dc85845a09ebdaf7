/-
  Writing a rune of one byte into a builder that a call has made. Conditions: the theorem's own.
-/
import Derived.Test.YtggpmailkkpdaaaDoorBld
import Derived.Maps.AppendAt
namespace Go.Proofs.YtggpmailkkpdaaaDoor
open Go.RowKit

set_option maxRecDepth 100000 in
set_option maxHeartbeats 1000000 in
/-- A rune below 128 behind a row of bytes of the call's own. -/
theorem appendRune_any (B : Nat) (v : Value) (n : Nat) (xs : List Value) (r : Nat) (w : World) (hr : r < 128) (h : w.ownsRow B 5 1 v n xs) (hlen : n + 1 ≤ 140737488355328) (hB : B ≤ w.heap.size) :
    Calls Tryd.prog 88 #[v, .int .i32 (r : Int)] w fun e w' => ∃ v', e = .returned v' ∧ w'.ownsRow B 5 1 v' (n + 1) (xs ++ [.int .u8 (r : Int)]) ∧ (w.alloc (.cells #[.int .u8 (r : Int)] 5)).grownBy w' v.ownBlock := by
  obtain ⟨i0, hi, hz0, hz1, hz2⟩ := info_parts info_u8
  have hw : IntKind.u32.wrap (r : Int) = r := by simp [IntKind.wrap, IntKind.bits, IntKind.signed]; omega
  have hw8 : IntKind.u8.wrap (r : Int) = r := by simp [IntKind.wrap, IntKind.bits, IntKind.signed]; omega
  have hle : (r : Int) ≤ 127 := by omega
  go_enter Tryd.func88, Tryd.ntmps88
  go_wp2_with (at_builtin; refine wpList_append_own _ rfl _ _ 63 rfl B 5 i0 (.int .u8 0) 1 1 Tryd.underlying63 hi hz0 hz1 hz2 rfl (by decide) _ _ _ rfl (h.alloc _) ⟨w.heap.size, 0, none⟩ 1 1 [.int .u8 (r : Int)] rfl rfl (cell_one_new _ _ _) (by intro u hu; simp at hu; subst hu; rfl) (by unfold maxLen; omega) (by omega) (by simp; omega) ?_; intro v' w4 hown4 hgrow4 _)
  go_ret
  exact ⟨_, rfl, hown4, hgrow4⟩

theorem row_len {w : World} {B n size : Nat} {e : TypeId} {v : Value} {xs : List Value} (h : w.ownsRow B e size v n xs) : ∃ ao cap, v = .slice ao n cap := by
  rcases h.2 with ⟨rfl, rfl⟩ | ⟨g, cap, cur, rfl, _⟩
  · exact ⟨_, _, rfl⟩
  · exact ⟨_, _, rfl⟩
set_option maxRecDepth 100000 in
set_option maxHeartbeats 1000000 in
theorem writeRune_any (B b : Nat) (l : List UInt8) (r : Nat) (w : World) (hr : r < 128) (h : Bld w B b l) (hlen : l.length + 1 ≤ 140737488355328) (hB : B ≤ w.heap.size) :
    Calls Tryd.prog 57 #[.pointer (some ⟨b, 0, none⟩), .int .i32 (r : Int)] w fun e w' => (∃ v, e = .returned v) ∧ Bld w' B b (l ++ [UInt8.ofNat r]) ∧ Below B w w' := by
  go_enter Tryd.func57, Tryd.ntmps57
  go_wp2_with fail
  refine (copyCheck_any B b _ _ h).mono ?_
  rintro e w1 ⟨rfl, h1, hb1, hr1⟩
  have s1 := hb1.size
  have hlt := h1.lt
  obtain ⟨hB2, v, hbk, hown, hne⟩ := h1
  have c1 : w1.cell? ⟨b, 1, none⟩ = some v := by rw [Lib.cell_of_heap hbk]; rfl
  have hbl := Lib.byteCells_length l
  have hlt2 : b < (w1.alloc (.cells #[.int .u8 (r : Int)] 5)).heap.size := by simp; omega
  have hbk2 : (w1.alloc (.cells #[.int .u8 (r : Int)] 5)).heap[b]? = some (.cells #[.pointer (some ⟨b, 0, none⟩), v] 65 (0, 0)) := (Below.heap_alloc _ _ _ hlt).trans hbk
  have hb1a : Below B w (w1.alloc (.cells #[.int .u8 (r : Int)] 5)) := hb1.alloc (by omega) _
  have HOWN := Lib.hid hown
  obtain ⟨ao0, cap0, rfl⟩ := row_len hown
  clear hown
  rw [hbl] at c1
  go_wp2_with fail
  refine (appendRune_any B _ _ _ r w1 hr (by rw [← hbl]; exact HOWN.out) (by omega) (by omega)).mono ?_
  rintro e w2 ⟨v', rfl, hown', hgrow⟩
  rw [hbl] at hbk2 hne
  have hb2 := Lib.hid (hbk_grow hbk2 hlt2 hne hgrow)
  have d1 : w2.cell? ⟨b, 1, none⟩ = some (.slice ao0 l.length cap0) := by rw [Lib.cell_of_heap hb2.out]; rfl
  have f1 : w2.frozen? ⟨b, 1, none⟩ = false := Lib.frozen_of_heap hb2.out 1
  obtain ⟨ao, cap, rfl⟩ := row_len hown'
  go_wp2
  go_ret2
  refine ⟨⟨_, rfl⟩, .inr ?_, ?_⟩
  · have e : Lib.byteCells (l ++ [UInt8.ofNat r]) = Lib.byteCells l ++ [.int .u8 (r : Int)] := by
      simp [Lib.byteCells]
      omega
    rw [e]
    exact Lib.BuilderAt.put (T := 65) (e := 5) hB2 hb2.out (bs' := Lib.byteCells l ++ [.int .u8 (r : Int)]) (by simpa [hbl] using hown') (by decide)
  · exact (hb1a.grown hgrow (by simp; omega) (fun k hk => by rw [← hbl] at hk; exact (HOWN.out.lt k hk).1)).setCell (p := ⟨b, 1, none⟩) hB2 _

end Go.Proofs.YtggpmailkkpdaaaDoor
