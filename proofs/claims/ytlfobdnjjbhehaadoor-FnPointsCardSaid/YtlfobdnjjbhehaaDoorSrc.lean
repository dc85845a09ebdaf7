/-
  The drawn source of the laws: its one block of three cells, the bytes that it reads, one number. Conditions: each theorem's own.
-/
import Derived.Test.YtlfobdnjjbhehaaDoorTwo
import Derived.WalkKit
import Derived.Laws.MathBits
import Derived.Lib.BufferOwn
namespace Go.Proofs.YtlfobdnjjbhehaaDoor
open Go.RowKit

/-- The source's block: its bytes, where it stands, its seed. -/
structure Src (w : World) (b : Nat) (cv : Value) (k z : Int) : Prop where
  c0 : w.cell? ⟨b, 0, none⟩ = some cv
  c1 : w.cell? ⟨b, 1, none⟩ = some (.int .i64 k)
  c2 : w.cell? ⟨b, 2, none⟩ = some (.int .u64 z)
  z0 : w.frozen? ⟨b, 0, none⟩ = false
  z1 : w.frozen? ⟨b, 1, none⟩ = false
  z2 : w.frozen? ⟨b, 2, none⟩ = false

theorem Src.drew {w : World} {b : Nat} {cv : Value} {k z : Int} (h : Src w b cv k z) : Src w.drew b cv k z := ⟨h.c0, h.c1, h.c2, h.z0, h.z1, h.z2⟩
theorem Src.step {w : World} {b : Nat} {cv : Value} {k z : Int} (h : Src w b cv k z) (k' z' : Int) : Src ((w.setCell ⟨b, 1, none⟩ (.int .i64 k')).setCell ⟨b, 2, none⟩ (.int .u64 z')) b cv k' z' := by
  obtain ⟨c0, c1, c2, z0, z1, z2⟩ := h
  exact ⟨by simp [go_sem, c0], by simp [go_sem, c1], by simp [go_sem, c2], by simp [go_sem, z0], by simp [go_sem, z1], by simp [go_sem, z2]⟩
theorem Src.grow {w : World} {b : Nat} (k' z' : Int) : w.grownBy ((w.setCell ⟨b, 1, none⟩ (.int .i64 k')).setCell ⟨b, 2, none⟩ (.int .u64 z')) (some b) :=
  Lib.grownBy_setB (Lib.grownBy_setCell w b 1 _) 2 _
theorem grown_drew {w w' : World} {row : Option Nat} (h : w.grownBy w' row) : w.grownBy w'.drew row := ⟨h.os, h.tape, h.output, h.size, h.block⟩
theorem and_255 (z : Int) (h0 : 0 ≤ z) (h1 : z < 18446744073709551616) : bits .and .u64 z 255 = z % 256 := by go_bits2
theorem u64_in (z : Int) : 0 ≤ IntKind.u64.wrap z ∧ IntKind.u64.wrap z < 18446744073709551616 := by
  have e : IntKind.u64.wrap z = z % 18446744073709551616 := by simp [IntKind.wrap, IntKind.signed, IntKind.bits]
  rw [e]
  omega
theorem draw_in (y : Int) : 0 ≤ wrap64 (bits .and .u64 (IntKind.u64.wrap y / 1099511627776) 255) ∧ wrap64 (bits .and .u64 (IntKind.u64.wrap y / 1099511627776) 255) ≤ 255 := by
  obtain ⟨h0, h1⟩ := u64_in y
  generalize IntKind.u64.wrap y = u at *
  rw [and_255 _ (by omega) (by omega), show wrap64 (u / 1099511627776 % 256) = u / 1099511627776 % 256 by unfold wrap64; omega]
  omega

set_option maxHeartbeats 1000000 in
set_option maxRecDepth 100000 in
theorem next_in (b cb off n cap : Nat) (k z x : Int) (w : World) (h : Src w b (.slice (some ⟨cb, off, none⟩) n cap) k z) (h0 : 0 ≤ k) (h1 : k < n) (hn : n ≤ 4096) (hx : w.cell? ⟨cb, off + k.toNat, none⟩ = some (.int .u8 x)) (x0 : 0 ≤ x) (x1 : x ≤ 255) :
    Calls Tryd.prog 29 #[.pointer (some ⟨b, 0, none⟩)] w fun e w' => ∃ z', e = .returned (.int .i64 x) ∧ Src w' b (.slice (some ⟨cb, off, none⟩) n cap) (k + 1) z' ∧ w.grownBy w' (some b) := by
  obtain ⟨j, rfl⟩ : ∃ j : Nat, k = j := ⟨k.toNat, by omega⟩
  have HS := Lib.hid h
  obtain ⟨c0, c1, c2, z0, z1, z2⟩ := h
  rw [Int.toNat_natCast] at hx
  have hj : j < n := by omega
  have hb : b < w.heap.size := World.block_lt_of_cell? w ⟨b, 0, none⟩ c0
  go_enter Tryd.func29, Tryd.ntmps29
  go_wp2
  go_region
  all_goals go_wp2
  all_goals go_region
  all_goals go_wp2
  all_goals go_region
  all_goals go_wp2
  go_ret
  exact ⟨_, rfl, (HS.out.step _ _).drew.drew.drew, grown_drew (grown_drew (grown_drew (Src.grow _ _)))⟩

set_option maxHeartbeats 1000000 in
set_option maxRecDepth 100000 in
theorem next_out (b n cap : Nat) (cb : Option Addr) (k z : Int) (w : World) (h : Src w b (.slice cb n cap) k z) (h0 : 0 ≤ k) (h1 : ¬ k < n) (hk : k < 1000000) :
    Calls Tryd.prog 29 #[.pointer (some ⟨b, 0, none⟩)] w fun e w' => ∃ x z' : Int, e = .returned (.int .i64 x) ∧ 0 ≤ x ∧ x ≤ 255 ∧ Src w' b (.slice cb n cap) (k + 1) z' ∧ w.grownBy w' (some b) := by
  have HS := Lib.hid h
  obtain ⟨c0, c1, c2, z0, z1, z2⟩ := h
  have hb : b < w.heap.size := World.block_lt_of_cell? w ⟨b, 0, none⟩ c0
  go_enter Tryd.func29, Tryd.ntmps29
  go_wp2
  go_region
  all_goals go_wp2
  all_goals go_region
  all_goals go_wp2
  all_goals go_ret
  exact ⟨_, _, rfl, (draw_in _).1, (draw_in _).2, (HS.out.step _ _).drew.drew, grown_drew (grown_drew (Src.grow _ _))⟩

/-- The bytes stand where the slice says. -/
def Code (w : World) (cv : Value) : Prop :=
  ∃ ao n cap, cv = .slice ao n cap ∧ n ≤ 4096 ∧ ∀ j, j < n → ∃ cb off x, ao = some ⟨cb, off, none⟩ ∧ w.cell? ⟨cb, off + j, none⟩ = some (.int .u8 x) ∧ 0 ≤ x ∧ x ≤ 255

/-- The source as it stands between two draws: at most k bytes read; its code lies elsewhere. -/
def Has (w : World) (b : Nat) (cv : Value) (k : Nat) : Prop := ∃ (j : Nat) (z : Int), j ≤ k ∧ Src w b cv j z

theorem Has.more {w : World} {b k l : Nat} {cv : Value} (h : Has w b cv k) (hl : k ≤ l) : Has w b cv l := by
  obtain ⟨j, z, hj, hs⟩ := h
  exact ⟨j, z, by omega, hs⟩

theorem next_any (b k : Nat) (cv : Value) (w : World) (h : Has w b cv k) (hc : Code w cv) (hk : k < 1000000) :
    Calls Tryd.prog 29 #[.pointer (some ⟨b, 0, none⟩)] w fun e w' => ∃ x : Int, e = .returned (.int .i64 x) ∧ 0 ≤ x ∧ x ≤ 255 ∧ Has w' b cv (k + 1) ∧ w.grownBy w' (some b) := by
  obtain ⟨j, z, hj, hs⟩ := h
  obtain ⟨ao, n, cap, rfl, hn, hx⟩ := hc
  by_cases h1 : (j : Int) < n
  · obtain ⟨cb, off, x, rfl, c, x0, x1⟩ := hx j (by omega)
    refine (next_in b cb off n cap j z x w hs (by omega) h1 hn c x0 x1).mono ?_
    rintro e w' ⟨z', rfl, hs', hg⟩
    exact ⟨x, rfl, x0, x1, ⟨j + 1, z', by omega, hs'⟩, hg⟩
  · refine (next_out b n cap ao j z w hs (by omega) h1 (by omega)).mono ?_
    rintro e w' ⟨x, z', rfl, x0, x1, hs', hg⟩
    exact ⟨x, rfl, x0, x1, ⟨j + 1, z', by omega, hs'⟩, hg⟩

/-- The code's bytes lie below the source's block and behind it nothing turns. -/
theorem Code.grow {w w' : World} {cv : Value} {b : Nat} (h : Code w cv) (hg : w.grownBy w' (some b)) (hb : ∀ cb off n cap, cv = .slice (some ⟨cb, off, none⟩) n cap → 0 < n → cb ≠ b) : Code w' cv := by
  obtain ⟨ao, n, cap, rfl, hn, hx⟩ := h
  refine ⟨ao, n, cap, rfl, hn, fun j hj => ?_⟩
  obtain ⟨cb, off, x, rfl, c, x0, x1⟩ := hx j hj
  refine ⟨cb, off, x, rfl, ?_, x0, x1⟩
  have hlt := World.block_lt_of_cell? w ⟨cb, off + j, none⟩ c
  rw [World.cell?_of_block (hg.block cb hlt (fun e => hb cb off n cap rfl (by omega) (Option.some.inj e)))]
  exact c

set_option maxHeartbeats 1000000 in
set_option maxRecDepth 100000 in
theorem pick_small (b k : Nat) (m : Int) (cv : Value) (w : World) (h : Has w b cv k) (hc : Code w cv) (hk : k < 900000) (h1 : 1 < m) (h2 : m ≤ 200) :
    Calls Tryd.prog 16 #[.pointer (some ⟨b, 0, none⟩), .int .i64 m] w fun e w' => ∃ x : Int, e = .returned (.int .i64 x) ∧ 0 ≤ x ∧ x < m ∧ Has w' b cv (k + 2) ∧ w.grownBy w' (some b) := by
  go_enter Tryd.func16, Tryd.ntmps16
  go_wp2_with fail
  refine (next_any b k cv _ h hc (by omega)).mono ?_
  rintro e w1 ⟨x, rfl, x0, x1, hs1, hg1⟩
  go_wp2
  go_ret
  exact ⟨x % m, rfl, Int.emod_nonneg _ (by omega), Int.emod_lt_of_pos _ (by omega), hs1.more (by omega), hg1⟩

set_option maxHeartbeats 1000000 in
set_option maxRecDepth 100000 in
theorem pick_big (b k : Nat) (m : Int) (cv : Value) (w : World) (h : Has w b cv k) (hc : Code w cv) (hb : ∀ cb off n cap, cv = .slice (some ⟨cb, off, none⟩) n cap → 0 < n → cb ≠ b) (hk : k < 900000) (h1 : 200 < m) (h2 : m ≤ 65536) :
    Calls Tryd.prog 16 #[.pointer (some ⟨b, 0, none⟩), .int .i64 m] w fun e w' => ∃ x : Int, e = .returned (.int .i64 x) ∧ 0 ≤ x ∧ x < m ∧ Has w' b cv (k + 2) ∧ w.grownBy w' (some b) := by
  go_enter Tryd.func16, Tryd.ntmps16
  go_wp2_with fail
  refine (next_any b k cv _ h hc (by omega)).mono ?_
  rintro e w1 ⟨x, rfl, x0, x1, hs1, hg1⟩
  have hc1 := hc.grow hg1 hb
  go_wp2_with fail
  refine (next_any b (k + 1) cv _ hs1 hc1 (by omega)).mono ?_
  rintro e w2 ⟨y, rfl, y0, y1, hs2, hg2⟩
  go_wp2
  go_ret
  exact ⟨(x * 256 + y) % m, rfl, Int.emod_nonneg _ (by omega), Int.emod_lt_of_pos _ (by omega), hs2, Lib.grownBy_trans hg1 hg2⟩

theorem pick_any (b k : Nat) (m : Int) (cv : Value) (w : World) (h : Has w b cv k) (hc : Code w cv) (hb : ∀ cb off n cap, cv = .slice (some ⟨cb, off, none⟩) n cap → 0 < n → cb ≠ b) (hk : k < 900000) (h1 : 1 < m) (h2 : m ≤ 65536) :
    Calls Tryd.prog 16 #[.pointer (some ⟨b, 0, none⟩), .int .i64 m] w fun e w' => ∃ x : Int, e = .returned (.int .i64 x) ∧ 0 ≤ x ∧ x < m ∧ Has w' b cv (k + 2) ∧ w.grownBy w' (some b) := by
  by_cases h3 : m ≤ 200
  · exact pick_small b k m cv w h hc hk h1 h3
  · exact pick_big b k m cv w h hc hb hk (by omega) h2

theorem one_any (b k : Nat) (m : Int) (cv : Value) (w : World) (h : Has w b cv k) (hc : Code w cv) (hb : ∀ cb off n cap, cv = .slice (some ⟨cb, off, none⟩) n cap → 0 < n → cb ≠ b) (hk : k < 900000) (h1 : 1 < m) (h2 : m ≤ 65536) :
    Calls Tryd.prog 27 #[.pointer (some ⟨b, 0, none⟩), .int .i64 m] w fun e w' => ∃ t : Bool, e = .returned (.bool t) ∧ Has w' b cv (k + 2) ∧ w.grownBy w' (some b) := by
  go_enter Tryd.func27, Tryd.ntmps27
  go_wp2_with fail
  refine (pick_any b k m cv _ h hc hb hk h1 h2).mono ?_
  rintro e w1 ⟨x, rfl, x0, x1, hs1, hg1⟩
  go_wp2
  go_ret
  exact ⟨_, rfl, hs1, hg1⟩

set_option maxHeartbeats 1000000 in
set_option maxRecDepth 100000 in
theorem among_any (b k lb loff : Nat) (xs : List Int) (cap : Nat) (cv : Value) (w : World) (h : Has w b cv k) (hc : Code w cv) (hb : ∀ cb off n cap, cv = .slice (some ⟨cb, off, none⟩) n cap → 0 < n → cb ≠ b) (hk : k < 900000)
    (hne : lb ≠ b) (h1 : 1 < xs.length) (h2 : xs.length ≤ 65536) (hx : ∀ j, j < xs.length → w.cell? ⟨lb, loff + j, none⟩ = some (.int .i64 (xs.getD j 0))) :
    Calls Tryd.prog 28 #[.pointer (some ⟨b, 0, none⟩), .slice (some ⟨lb, loff, none⟩) xs.length cap] w fun e w' => ∃ x, e = .returned (.int .i64 x) ∧ x ∈ xs ∧ Has w' b cv (k + 2) ∧ w.grownBy w' (some b) := by
  go_enter Tryd.func28, Tryd.ntmps28
  go_wp2_with fail
  refine (pick_any b k xs.length cv _ h hc hb hk (by omega) (by omega)).mono ?_
  rintro e w1 ⟨x, rfl, x0, x1, hs1, hg1⟩
  obtain ⟨j, rfl⟩ : ∃ j : Nat, x = j := ⟨x.toNat, by omega⟩
  have hj : j < xs.length := by omega
  have c := hx j hj
  have c1 : w1.cell? ⟨lb, loff + j, none⟩ = some (.int .i64 xs[j]) := by
    rw [World.cell?_of_block (hg1.block lb (World.block_lt_of_cell? w _ c) (fun e => hne (Option.some.inj e))), c]
    simp [List.getD, hj]
  clear hx c
  go_wp2
  go_ret
  exact ⟨_, rfl, List.getElem_mem hj, hs1, hg1⟩

theorem from_any (cv : Value) (w : World) (hc : Code w cv) :
    Calls Tryd.prog 14 #[cv] w fun e w' => e = .returned (.pointer (some ⟨w.heap.size, 0, none⟩)) ∧ Has w' w.heap.size cv 0 ∧ Code w' cv ∧ Below w.heap.size w w' := by
  obtain ⟨ao, n, cap, rfl, hn, hx⟩ := hc
  go_enter Tryd.func14, Tryd.ntmps14
  go_wp2
  go_ret
  refine ⟨rfl, ⟨0, 0, Nat.le_refl _, ⟨by simp [go_sem], by simp [go_sem], by simp [go_sem], by simp [go_sem], by simp [go_sem], by simp [go_sem]⟩⟩, ⟨ao, n, cap, rfl, hn, fun j hj => ?_⟩, by (repeat (first | exact Below.refl _ _ | refine Below.setCell ?_ (by first | (simp; done) | (simp; omega) | omega) _ | refine belowN ?_ _ | refine Below.drew ?_ | refine Below.alloc ?_ (by first | (simp; done) | (simp; omega) | omega) _ | refine Below.trans ?_ (Below.mono (by assumption) (by first | (simp; done) | (simp; omega) | omega))))⟩
  obtain ⟨cb, off, x, rfl, c, x0, x1⟩ := hx j hj
  exact ⟨cb, off, x, rfl, akeep c, x0, x1⟩
end Go.Proofs.YtlfobdnjjbhehaaDoor
