/-
  Cutting a text at each byte of one kind: the loop of the drawn text. Conditions: the text is no longer than 2^20.
-/
import Derived.Test.YtmleplkamnihcaaDoorRead5
import Derived.Test.YtmleplkamnihcaaDoorShelfC
import Derived.WalkKit
namespace Go.Proofs.YtmleplkamnihcaaDoor
open Go.RowKit

/-- The pieces so far, and where the next begins. -/
def sp (s : ByteArray) : Nat → List ByteArray × Nat
  | 0 => ([], 0)
  | k + 1 => if s.data.toList[k]? = some 44 then ((sp s k).1 ++ [s.extract (sp s k).2 k], k + 1) else sp s k
theorem sp_le (s : ByteArray) (k : Nat) : (sp s k).2 ≤ k ∧ (sp s k).1.length ≤ k := by
  induction k with
  | zero => simp [sp]
  | succ k ih => unfold sp; split <;> (try simp) <;> omega
def pcs (s : ByteArray) : List ByteArray := (sp s s.size).1 ++ [s.extract (sp s s.size).2 s.size]
theorem infoStr : (Tryd.prog.info? 9).map (fun i => (i.zero, i.size, i.bytes)) = some (some (.string ⟨#[]⟩), 1, 16) := by kernel_rfl
theorem sp_hit {s : ByteArray} {k : Nat} (h : k < s.size) (e : (((s[k]).toNat : Int) == 44) = true) : sp s (k + 1) = ((sp s k).1 ++ [s.extract (sp s k).2 k], k + 1) := by
  have h1 : s[k] = 44 := UInt8.toNat_inj.1 (by have h2 : ((s[k]).toNat : Int) = 44 := by simpa using e
                                               have h3 : (s[k]).toNat = 44 := by omega
                                               rw [h3]; rfl)
  rw [sp, list_get h, h1, if_pos rfl]
theorem sp_miss {s : ByteArray} {k : Nat} (h : k < s.size) (e : (((s[k]).toNat : Int) == 44) = false) : sp s (k + 1) = sp s k := by
  have h1 : ¬ s[k] = 44 := fun h2 => by rw [h2] at e; exact absurd e (by decide)
  rw [sp, list_get h, if_neg (fun h2 => h1 (Option.some.inj h2))]

set_option maxHeartbeats 2000000 in
set_option maxRecDepth 100000 in
theorem l01Split_any (s : ByteArray) (w : World) (hmax : s.size ≤ 1048576) :
    Calls Tryd.prog 50 #[.string s, .int .u8 44] w fun e w' => ∃ v, e = .returned v ∧ w'.ownsRow w.heap.size 9 1 v (pcs s).length ((pcs s).map Value.string) ∧ Below w.heap.size w w' := by
  obtain ⟨i0, hi, hz0, hz1, hz2⟩ := info_parts infoStr
  go_enter Tryd.func50, Tryd.ntmps50
  go_wp2
  go_loopw [5, 6, 7] (fun out fr ix wr => ∃ (k : Nat), k ≤ s.size ∧ fr = .int .i64 (sp s k).2 ∧ ix = .int .i64 k ∧
      wr.ownsRow w.heap.size 9 1 out (sp s k).1.length ((sp s k).1.map Value.string) ∧ Below w.heap.size w wr)
    (fun _ _ ix _ => s.size - (intOf ix).toNat)
  case atStart =>
    exact ⟨0, Nat.zero_le _, rfl, rfl, World.ownsRow_lit w #[] 0 (Nat.le_refl _) (Nat.zero_le _) rfl, (Below.refl _ _).alloc (Nat.le_refl _) _⟩
  case round =>
    obtain ⟨k, hk, rfl, rfl, hown, hnx⟩ := hrel
    have hsl := sp_le s k
    generalize hf : (sp s k).2 = f at hsl ⊢
    have hsz := hnx.size
    have HF := Lib.hid hf
    clear hf
    go_wp2_with (first
      | (at_builtin; (refine wpList_append_own _ rfl (.tmp 20) (.tmp 25) 53 rfl w.heap.size 9 i0 (.string ⟨#[]⟩) 1 16 Tryd.underlying53 hi hz0 hz1 hz2 rfl (by decide) _ _ _ rfl (hown.alloc _) ⟨wr.heap.size, 0, none⟩ 1 1 [.string (s.extract f k)] rfl rfl (by intro j u hj; match j, hj with | 0, hj => simp at hj; subst hj; simp [Addr.add]) (by intro u hu; simp at hu; subst hu; rfl) (by unfold maxLen; omega) (by omega) (by simp; omega) ?_; intro v1 w1 hown1 hgrow1 hiff1))
      | (at_builtin; (refine wpList_append_own _ rfl (.tmp 29) (.tmp 33) 53 rfl w.heap.size 9 i0 (.string ⟨#[]⟩) 1 16 Tryd.underlying53 hi hz0 hz1 hz2 rfl (by decide) _ _ _ rfl (hown.alloc _) ⟨wr.heap.size, 0, none⟩ 1 1 [.string (s.extract f s.size)] rfl rfl (by intro j u hj; match j, hj with | 0, hj => simp at hj; subst hj; simp [Addr.add]) (by intro u hu; simp at hu; subst hu; rfl) (by unfold maxLen; omega) (by omega) (by simp; omega) ?_; intro v2 w2 hown2 hgrow2 hiff2))
      | go_in)
    · have hh : (((s[k]).toNat : Int) == 44) = true := by assumption
      have hlt : k < s.size := by assumption
      have e1 := sp_hit hlt hh
      have e2 := HF.out
      have e3 : (sp s (k + 1)).1 = (sp s k).1 ++ [s.extract f k] := by rw [e1, ← e2]
      have e4 : (sp s (k + 1)).2 = k + 1 := by rw [e1]
      refine ⟨⟨k + 1, hlt, by rw [e4]; rfl, by go_num, ?_, (hnx.alloc hsz _).grown hgrow1 (by simp; omega) (fun j hj => (hown.lt j hj).1)⟩, by simp [intOf]; omega⟩
      rw [e3, List.length_append, List.map_append]
      exact hown1
    · have hh : (((s[k]).toNat : Int) == 44) = false := by assumption
      have hlt : k < s.size := by assumption
      have e1 := sp_miss hlt hh
      have e2 := HF.out
      refine ⟨⟨k + 1, hlt, by rw [e1, e2], by go_num, ?_, hnx⟩, by simp [intOf]; omega⟩
      rw [e1]
      exact hown
    · have e2 := HF.out
      go_ret
      have hk2 : k = s.size := by omega
      subst hk2
      refine ⟨_, rfl, ?_, (hnx.alloc hsz _).grown hgrow2 (by simp; omega) (fun j hj => (hown.lt j hj).1)⟩
      unfold pcs
      rw [e2, List.length_append, List.map_append]
      exact hown2
end Go.Proofs.YtmleplkamnihcaaDoor
