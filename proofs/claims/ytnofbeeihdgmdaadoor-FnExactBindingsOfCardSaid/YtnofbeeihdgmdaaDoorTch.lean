/-
  The tiles next to each other: the program's iterator gives them, tile by tile, east ahead of north. Conditions: each theorem's own; it reads the listed table of steps.
-/
import Derived.Test.YtnofbeeihdgmdaaDoorSeq
import Derived.Test.YtnofbeeihdgmdaaDoorIMap
import Derived.Test.YtnofbeeihdgmdaaDoorAsk
import Derived.Maps.OwnIn
namespace Go.Proofs.YtnofbeeihdgmdaaDoor
open Go.RowKit Go.Shelf
attribute [local go_sem] Oper.semAt_some

/-- Two tiles next to each other: b lies in direction d of a. -/
structure Tc where
  a : Nat
  d : Int
  b : Nat
/-- .. as a value. -/
def encT (t : Tc) : Array Value := #[.agg #[.int .i64 (t.a : Int), .int .i64 t.d, .int .i64 (t.b : Int)]]
/-- What lies next to tile i in direction d. -/
def tcOf (ps : List Pl) (i : Nat) (d : Int) : List Tc := if ixN ps (stepX (pX ps i) d) (stepY (pY ps i) d) < ps.length then [⟨i, d, ixN ps (stepX (pX ps i) d) (stepY (pY ps i) d)⟩] else []
theorem tcOf_yes {ps : List Pl} {i k : Nat} {d : Int} (hk : k < ps.length) (h : ixN ps (stepX (pX ps i) d) (stepY (pY ps i) d) = k) : tcOf ps i d = [⟨i, d, k⟩] := by unfold tcOf; rw [h, if_pos hk]
theorem tcOf_no {ps : List Pl} {i : Nat} {d : Int} (h : ¬ ixN ps (stepX (pX ps i) d) (stepY (pY ps i) d) < ps.length) : tcOf ps i d = [] := by unfold tcOf; rw [if_neg h]
/-- .. of the first i tiles. -/
def tcs (ps : List Pl) : Nat → List Tc
  | 0 => []
  | i + 1 => tcs ps i ++ tcOf ps i 1 ++ tcOf ps i 0
/-- .. and in e of the two directions of tile i. -/
def tcP (ps : List Pl) (i e : Nat) : List Tc := if e = 0 then tcs ps i else if e = 1 then tcs ps i ++ tcOf ps i 1 else tcs ps (i + 1)
theorem tcs_pre {ps : List Pl} {i n : Nat} (h : i ≤ n) : tcs ps i <+: tcs ps n := by
  induction n with
  | zero => obtain rfl : i = 0 := by omega
            exact List.prefix_refl _
  | succ n ih =>
    by_cases h1 : i ≤ n
    · exact (ih h1).trans ((List.prefix_append _ (tcOf ps n 1)).trans (List.prefix_append _ _))
    · obtain rfl : i = n + 1 := by omega
      exact List.prefix_refl _
theorem tcP_pre {ps : List Pl} {i e : Nat} (h : i < ps.length) : tcP ps i e <+: tcs ps ps.length := by
  unfold tcP
  split
  · exact tcs_pre (by omega)
  · split
    · exact (show tcs ps i ++ tcOf ps i 1 <+: tcs ps (i + 1) from List.prefix_append _ _).trans (tcs_pre (by omega))
    · exact tcs_pre (by omega)
theorem tcP_0 {ps : List Pl} {i : Nat} : tcP ps i 0 = tcs ps i := rfl
theorem tcP_1 {ps : List Pl} {i : Nat} : tcP ps i (0 + 1) = tcP ps i 0 ++ tcOf ps i 1 := rfl
theorem tcP_2 {ps : List Pl} {i : Nat} : tcP ps i (1 + 1) = tcP ps i 1 ++ tcOf ps i 0 := rfl

theorem idx2 (a b : Int) (W : World) (i : Nat) (hi : i < 2) : (Instr.index 155 (.agg #[.int .i64 a, .int .i64 b]) (.int .i64 (i : Int))).run Tryd.prog W = .ok (.int .i64 (if i = 0 then a else b)) W := by
  obtain ⟨i0, hi0, hz0, hz1, hz2⟩ := info_parts info_i64
  have hr : (0 : Int) ≤ (i : Int) ∧ (i : Int) < 2 := by omega
  obtain rfl | rfl : i = 0 ∨ i = 1 := by omega
  all_goals simp [Instr.index, run_underlying Tryd.underlying155, asIntOf, part, sizeOf, typeInfo, hi0, hz1, go_sem]
theorem idx2_0 (W : World) : (Instr.index 155 (.agg #[.int .i64 1, .int .i64 0]) (.int .i64 0)).run Tryd.prog W = .ok (.int .i64 1) W := idx2 1 0 W 0 (by omega)
theorem idx2_1 (W : World) : (Instr.index 155 (.agg #[.int .i64 1, .int .i64 0]) (.int .i64 1)).run Tryd.prog W = .ok (.int .i64 0) W := idx2 1 0 W 1 (by omega)
/-- The cells of a placed tile in a block of its own. -/
structure Thr (w : World) (b : Nat) (x y t : Value) : Prop where
  c0 : w.cell? ⟨b, 0, none⟩ = some x
  c1 : w.cell? ⟨b, 1, none⟩ = some y
  c2 : w.cell? ⟨b, 2, none⟩ = some t
theorem Thr.lt {w : World} {b : Nat} {x y t : Value} (h : Thr w b x y t) : b < w.heap.size := World.block_lt_of_cell? w ⟨b, 0, none⟩ h.c0
theorem Thr.of_block {w w1 : World} {b : Nat} {x y t : Value} (h : Thr w b x y t) (hb : w1.heap[b]? = w.heap[b]?) : Thr w1 b x y t :=
  ⟨(World.cell?_of_block (a := ⟨b, 0, none⟩) hb).trans h.c0, (World.cell?_of_block (a := ⟨b, 1, none⟩) hb).trans h.c1, (World.cell?_of_block (a := ⟨b, 2, none⟩) hb).trans h.c2⟩
theorem Thr.below {w w1 : World} {b : Nat} {x y t : Value} (h : Thr w b x y t) (hb : Below w.heap.size w w1) : Thr w1 b x y t := h.of_block (hb.block _ h.lt)

set_option maxRecDepth 100000 in
set_option maxHeartbeats 8000000 in
set_option linter.unusedSimpArgs false in
theorem touches_gives (w0 : World) (Bx : Nat) (v : Value) (ps : List Pl) (N : Nat → Prop) (w : World) (hb0 : Below w0.heap.size w0 w) (hN : ∀ k, k < w0.heap.size → N k) (hB : At1 w Bx v) (hv : Plcs w0 v ps) (hF : Form ps) (hT : Steps w0) :
    Gives Tryd.prog 113 #[.pointer (some ⟨Bx, 0, none⟩)] encT N (tcs ps ps.length) w := by
  intro l J C0 W hW hC0 hJ hY hJ0
  have HV := Lib.hid hv
  have HF := Lib.hid hF
  have HT := Lib.hid hT
  have hTl := hT.lt
  have b0W : Below w0.heap.size w0 W := hb0.trans (hW.mono hb0.size)
  have s0W := b0W.size
  have a0 := (hB.below hW).c0
  have lB := (hB.below hW).lt
  obtain ⟨ao, cap, rfl, hl, hm, hc⟩ := hv.open_
  unfold maxLen at hm
  have H0 := Lib.hid hc
  have h500 := hF.len
  clear hv hc hT hF hB
  rw [← callsIn_wide (n := 9)]
  refine callsIn_of_wp Tryd.func113 rfl trivial ?_ rfl
  simp only [Tryd.ntmps113, List.size_toArray, List.length_cons, List.length_nil, Nat.reduceAdd, Nat.reduceSub, Array.replicate_succ, Array.replicate_zero, List.push_toArray, List.append_toArray, List.nil_append, List.cons_append]
  gi_wp2_with (refine ⟨trivial, ?_⟩; gi_at_call 114; refine (callsIn_wide.2 (placesByPoint_any _ ps _ (HV.out.below b0W) HF.out)).mono ?_; rintro e w1 ⟨⟨bm, rfl, hbm, hmap⟩, hb1⟩; have a1 := cell_below hb1 a0)
  have b1W : Below w0.heap.size w0 w1 := b0W.trans (hb1.mono s0W)
  have s1 := hb1.size
  have J1 := hJ _ _ _ _ hJ0 (Aside.of hb1)
  have nC1 : ¬ C0 bm := fun h => by have := hC0 _ h; omega
  have hC1 : ∀ k, C0 k → k < w1.heap.size := fun k h => by have := hC0 k h; omega
  have HM1 := Lib.hid hmap
  clear hb1 a0 hmap
  gi_loopw [15] (fun i wr => ∃ (k : Nat) (C : Nat → Prop), k ≤ ps.length ∧ i = .int .i64 k ∧ Hid (J (tcs ps k) C wr ∧ (∀ j, C j → j < wr.heap.size) ∧ ¬ C bm ∧ IMap wr bm ps ps.length) ∧ W.heap.size ≤ wr.heap.size ∧ Below w0.heap.size w0 wr) (fun i _ => ps.length - (intOf i).toNat)
  case atStart => exact ⟨0, C0, Nat.zero_le _, rfl, Lib.hid ⟨J1, hC1, nC1, HM1.out⟩, s1, b1W⟩
  case round =>
    clear J1 hC1 nC1 HM1 b1W a1 s1
    obtain ⟨k, C, hk, rfl, hin, sWr, hbr⟩ := hrel
    have s0r := hbr.size
    by_cases hlt : k < ps.length
    · obtain ⟨b, off, rfl, H1⟩ := H0.out (by omega)
      obtain ⟨c0, c1, c2⟩ := H1 k hlt
      have c0 := cell_below hbr c0
      have c1 := cell_below hbr c1
      have c2 := cell_below hbr c2
      have hpt := HF.out.all k hlt
      have hxy : inB (pX ps k) (-60) 60 = true ∧ inB (pY ps k) (-60) 60 = true := by simpa [ptB] using hpt.pt
      have hx := inB_iff.1 hxy.1
      have hy := inB_iff.1 hxy.2
      have T0 : Thr (wr.alloc (.cells #[.int .i64 (pX ps k), .int .i64 (pY ps k), .int .i64 (pT ps k)] 100)) wr.heap.size (.int .i64 (pX ps k)) (.int .i64 (pY ps k)) (.int .i64 (pT ps k)) := ⟨by simp [go_sem], by simp [go_sem], by simp [go_sem]⟩
      have bA : Below wr.heap.size wr (wr.alloc (.cells #[.int .i64 (pX ps k), .int .i64 (pY ps k), .int .i64 (pT ps k)] 100)) := (Below.refl _ wr).alloc (Nat.le_refl _) _
      have zA : (wr.alloc (.cells #[.int .i64 (pX ps k), .int .i64 (pY ps k), .int .i64 (pT ps k)] 100)).heap.size = wr.heap.size + 1 := by simp
      have HA := Lib.hid (show J (tcP ps k 0) C (wr.alloc (.cells #[.int .i64 (pX ps k), .int .i64 (pY ps k), .int .i64 (pT ps k)] 100)) ∧ (∀ j, C j → j < (wr.alloc (.cells #[.int .i64 (pX ps k), .int .i64 (pY ps k), .int .i64 (pT ps k)] 100)).heap.size) ∧ ¬ C bm ∧ IMap (wr.alloc (.cells #[.int .i64 (pX ps k), .int .i64 (pY ps k), .int .i64 (pT ps k)] 100)) bm ps ps.length ∧ ¬ C wr.heap.size ∧ Thr (wr.alloc (.cells #[.int .i64 (pX ps k), .int .i64 (pY ps k), .int .i64 (pT ps k)] 100)) wr.heap.size (.int .i64 (pX ps k)) (.int .i64 (pY ps k)) (.int .i64 (pT ps k)) from
        ⟨hJ _ _ _ _ hin.out.1 (Aside.of bA), fun j h => by have := hin.out.2.1 j h; omega, hin.out.2.2.1, hin.out.2.2.2.below bA, fun h => by have := hin.out.2.1 _ h; omega, T0⟩)
      have b0A : Below w0.heap.size w0 (wr.alloc (.cells #[.int .i64 (pX ps k), .int .i64 (pY ps k), .int .i64 (pT ps k)] 100)) := hbr.alloc s0r _
      have sWA : W.heap.size ≤ (wr.alloc (.cells #[.int .i64 (pX ps k), .int .i64 (pY ps k), .int .i64 (pT ps k)] 100)).heap.size := by omega
      clear H1 T0 bA hxy hpt
      gi_wp2
      generalize hWA : wr.alloc (.cells #[.int .i64 (pX ps k), .int .i64 (pY ps k), .int .i64 (pT ps k)] 100) = wA at *
      have hqW : W.heap.size ≤ wr.heap.size := sWr
      generalize hq : wr.heap.size = q at *
      clear hWA c0 c1 c2 hbr s0r zA
      gi_loopw [21] (fun i wq => ∃ (e : Nat) (C : Nat → Prop), e ≤ 2 ∧ i = .int .i64 e ∧ Hid (J (tcP ps k e) C wq ∧ (∀ j, C j → j < wq.heap.size) ∧ ¬ C bm ∧ IMap wq bm ps ps.length ∧ ¬ C q ∧ Thr wq q (.int .i64 (pX ps k)) (.int .i64 (pY ps k)) (.int .i64 (pT ps k))) ∧ W.heap.size ≤ wq.heap.size ∧ Below w0.heap.size w0 wq) (fun i _ => 2 - (intOf i).toNat)
      case atStart => exact ⟨0, C, by omega, rfl, HA, sWA, b0A⟩
      case round =>
        clear HA sWA b0A hin
        obtain ⟨e, C, he, rfl, hin, sWq, hbq⟩ := hrel
        have s0q := hbq.size
        obtain ⟨t0, t1, t2⟩ := hin.out.2.2.2.2.2
        have hTq := Lib.hid (HT.out.below hbq hTl)
        obtain rfl | rfl | rfl : e = 0 ∨ e = 1 ∨ e = 2 := by omega
        · cases Classical.em (ixN ps (stepX (pX ps k) 1) (stepY (pY ps k) 1) < ps.length) with
          | inl hk1 =>
            obtain ⟨m, hme⟩ : ∃ m, ixN ps (stepX (pX ps k) 1) (stepY (pY ps k) 1) = m := ⟨_, rfl⟩
            have hml : m < ps.length := by omega
            have hnx : tcP ps k (0 + 1) = tcP ps k 0 ++ [⟨k, 1, m⟩] := by rw [tcP_1, tcOf_yes hml hme]
            have HY := iMap_yes HF.out (wfP_step hx hy 1) hml hme
            have HKEY := Lib.hid (keyOf_wf (wfP_step hx hy 1))
            have HNX := Lib.hid hnx
            clear hk1 hme hnx
            have hix := idx2_0
            rw [show (((0 : Nat)) : Int) = 0 from rfl]
            gi_wp2_with (first
              | (refine ⟨trivial, ?_⟩; gi_at_call 81; refine (callsIn_wide.2 (neighbor_any (pX ps k) (pY ps k) 1 _ hTq.out (by omega) (by omega) hx.1 hx.2 hy.1 hy.2)).mono ?_; rintro e w3 ⟨rfl, hb3⟩)
              | (gi_at_lookup; refine wpListIn_lookup_own_ok_int _ rfl _ _ 153 rfl 44 2 .i64 lawP Tryd.underlying153 Tryd.underlying2 (zeroP1 _) bm ps.length _ rfl (hin.out.2.2.2.1.below hb3) _ _ rfl HKEY.out ?_; intro c hat _; rw [HY.1]; obtain rfl : (m : Int) = c := by (have := (HY.2 _).symm.trans hat; simpa using this)))
            have z3 := hb3.size
            have hJ3 := hJ _ _ _ _ hin.out.1 (Aside.of hb3)
            obtain ⟨fn, tmps, assign, body, hyd, hR⟩ := hY _ _ ⟨k, 1, m⟩ w3 hJ3 (fun j h => by have := hin.out.2.1 j h; omega) (by omega) (by rw [← HNX.out]; exact tcP_pre hlt)
            dsimp only [encT] at hyd
            clear hix
            rw [hyd, Oper.uponIn_round]
            refine ⟨fun h => by simp [Fence.wide] at h, (roundIn_wide hR).mono ?_⟩
            rintro e W3 ⟨rfl, C', hJ4, hC4, hsp⟩
            have z4 := hsp.size
            have lm := hin.out.2.2.2.1.lt
            have lq := hin.out.2.2.2.2.2.lt
            have nm : ¬ C' bm := fun h => (hC4 _ h).1.elim hin.out.2.2.1 (fun h => by omega)
            have nq : ¬ C' q := fun h => (hC4 _ h).1.elim hin.out.2.2.2.2.1 (fun h => by omega)
            clear hyd hR
            gi_wp2
            go_roundw
            case rel => exact ⟨0 + 1, C', by omega, by first | rfl | go_num, Lib.hid ⟨by rw [HNX.out]; exact hJ4, fun j h => (hC4 j h).2, nm, (hin.out.2.2.2.1.below hb3).of_block (hsp.block _ (by omega) (.inr ⟨hbm, hin.out.2.2.1⟩)), nq, (hin.out.2.2.2.2.2.below hb3).of_block (hsp.block _ (by omega) (.inr ⟨hqW, hin.out.2.2.2.2.1⟩))⟩, by omega, (hbq.trans (hb3.mono s0q)).trans (hsp.below hN (by omega))⟩
            case measure => simp [intOf]
          | inr hk1 =>
            have hnx : tcP ps k (0 + 1) = tcP ps k 0 := by rw [tcP_1, tcOf_no hk1, List.append_nil]
            have HY := iMap_no HF.out (wfP_step hx hy 1) hk1
            have HKEY := Lib.hid (keyOf_wf (wfP_step hx hy 1))
            have HNX := Lib.hid hnx
            clear hk1 hnx
            have hix := idx2_0
            rw [show (((0 : Nat)) : Int) = 0 from rfl]
            gi_wp2_with (first
              | (refine ⟨trivial, ?_⟩; gi_at_call 81; refine (callsIn_wide.2 (neighbor_any (pX ps k) (pY ps k) 1 _ hTq.out (by omega) (by omega) hx.1 hx.2 hy.1 hy.2)).mono ?_; rintro e w3 ⟨rfl, hb3⟩)
              | (gi_at_lookup; refine wpListIn_lookup_own_ok_int _ rfl _ _ 153 rfl 44 2 .i64 lawP Tryd.underlying153 Tryd.underlying2 (zeroP1 _) bm ps.length _ rfl (hin.out.2.2.2.1.below hb3) _ _ rfl HKEY.out ?_; intro c hat _; rw [HY]))
            refine ⟨fun _ h => (by cases h), ?_⟩
            gi_wp2
            have z3 := hb3.size
            go_roundw
            case rel => exact ⟨0 + 1, C, by omega, by first | rfl | go_num, Lib.hid ⟨by rw [HNX.out]; exact hJ _ _ _ _ hin.out.1 (Aside.of hb3), fun j h => by have := hin.out.2.1 j h; omega, hin.out.2.2.1, hin.out.2.2.2.1.below hb3, hin.out.2.2.2.2.1, hin.out.2.2.2.2.2.below hb3⟩, by omega, hbq.trans (hb3.mono s0q)⟩
            case measure => simp [intOf]
        · cases Classical.em (ixN ps (stepX (pX ps k) 0) (stepY (pY ps k) 0) < ps.length) with
          | inl hk1 =>
            obtain ⟨m, hme⟩ : ∃ m, ixN ps (stepX (pX ps k) 0) (stepY (pY ps k) 0) = m := ⟨_, rfl⟩
            have hml : m < ps.length := by omega
            have hnx : tcP ps k (1 + 1) = tcP ps k 1 ++ [⟨k, 0, m⟩] := by rw [tcP_2, tcOf_yes hml hme]
            have HY := iMap_yes HF.out (wfP_step hx hy 0) hml hme
            have HKEY := Lib.hid (keyOf_wf (wfP_step hx hy 0))
            have HNX := Lib.hid hnx
            clear hk1 hme hnx
            have hix := idx2_1
            rw [show (((1 : Nat)) : Int) = 1 from rfl]
            gi_wp2_with (first
              | (refine ⟨trivial, ?_⟩; gi_at_call 81; refine (callsIn_wide.2 (neighbor_any (pX ps k) (pY ps k) 0 _ hTq.out (by omega) (by omega) hx.1 hx.2 hy.1 hy.2)).mono ?_; rintro e w3 ⟨rfl, hb3⟩)
              | (gi_at_lookup; refine wpListIn_lookup_own_ok_int _ rfl _ _ 153 rfl 44 2 .i64 lawP Tryd.underlying153 Tryd.underlying2 (zeroP1 _) bm ps.length _ rfl (hin.out.2.2.2.1.below hb3) _ _ rfl HKEY.out ?_; intro c hat _; rw [HY.1]; obtain rfl : (m : Int) = c := by (have := (HY.2 _).symm.trans hat; simpa using this)))
            have z3 := hb3.size
            have hJ3 := hJ _ _ _ _ hin.out.1 (Aside.of hb3)
            obtain ⟨fn, tmps, assign, body, hyd, hR⟩ := hY _ _ ⟨k, 0, m⟩ w3 hJ3 (fun j h => by have := hin.out.2.1 j h; omega) (by omega) (by rw [← HNX.out]; exact tcP_pre hlt)
            dsimp only [encT] at hyd
            clear hix
            rw [hyd, Oper.uponIn_round]
            refine ⟨fun h => by simp [Fence.wide] at h, (roundIn_wide hR).mono ?_⟩
            rintro e W3 ⟨rfl, C', hJ4, hC4, hsp⟩
            have z4 := hsp.size
            have lm := hin.out.2.2.2.1.lt
            have lq := hin.out.2.2.2.2.2.lt
            have nm : ¬ C' bm := fun h => (hC4 _ h).1.elim hin.out.2.2.1 (fun h => by omega)
            have nq : ¬ C' q := fun h => (hC4 _ h).1.elim hin.out.2.2.2.2.1 (fun h => by omega)
            clear hyd hR
            gi_wp2
            go_roundw
            case rel => exact ⟨1 + 1, C', by omega, by first | rfl | go_num, Lib.hid ⟨by rw [HNX.out]; exact hJ4, fun j h => (hC4 j h).2, nm, (hin.out.2.2.2.1.below hb3).of_block (hsp.block _ (by omega) (.inr ⟨hbm, hin.out.2.2.1⟩)), nq, (hin.out.2.2.2.2.2.below hb3).of_block (hsp.block _ (by omega) (.inr ⟨hqW, hin.out.2.2.2.2.1⟩))⟩, by omega, (hbq.trans (hb3.mono s0q)).trans (hsp.below hN (by omega))⟩
            case measure => simp [intOf]
          | inr hk1 =>
            have hnx : tcP ps k (1 + 1) = tcP ps k 1 := by rw [tcP_2, tcOf_no hk1, List.append_nil]
            have HY := iMap_no HF.out (wfP_step hx hy 0) hk1
            have HKEY := Lib.hid (keyOf_wf (wfP_step hx hy 0))
            have HNX := Lib.hid hnx
            clear hk1 hnx
            have hix := idx2_1
            rw [show (((1 : Nat)) : Int) = 1 from rfl]
            gi_wp2_with (first
              | (refine ⟨trivial, ?_⟩; gi_at_call 81; refine (callsIn_wide.2 (neighbor_any (pX ps k) (pY ps k) 0 _ hTq.out (by omega) (by omega) hx.1 hx.2 hy.1 hy.2)).mono ?_; rintro e w3 ⟨rfl, hb3⟩)
              | (gi_at_lookup; refine wpListIn_lookup_own_ok_int _ rfl _ _ 153 rfl 44 2 .i64 lawP Tryd.underlying153 Tryd.underlying2 (zeroP1 _) bm ps.length _ rfl (hin.out.2.2.2.1.below hb3) _ _ rfl HKEY.out ?_; intro c hat _; rw [HY]))
            refine ⟨fun _ h => (by cases h), ?_⟩
            gi_wp2
            have z3 := hb3.size
            go_roundw
            case rel => exact ⟨1 + 1, C, by omega, by first | rfl | go_num, Lib.hid ⟨by rw [HNX.out]; exact hJ _ _ _ _ hin.out.1 (Aside.of hb3), fun j h => by have := hin.out.2.1 j h; omega, hin.out.2.2.1, hin.out.2.2.2.1.below hb3, hin.out.2.2.2.2.1, hin.out.2.2.2.2.2.below hb3⟩, by omega, hbq.trans (hb3.mono s0q)⟩
            case measure => simp [intOf]
        · gi_wp2
          go_roundw
          case rel => exact ⟨k + 1, C, by omega, by go_num, Lib.hid ⟨hin.out.1, hin.out.2.1, hin.out.2.2.1, hin.out.2.2.2.1⟩, sWq, hbq⟩
          case measure => simp [intOf]; omega
    · obtain rfl : k = ps.length := by omega
      gi_wp2
      go_end0
      exact ⟨⟨_, rfl⟩, C, hin.out.1, sWr⟩
end Go.Proofs.YtnofbeeihdgmdaaDoor
