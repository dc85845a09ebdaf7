/-
  The model's list of bonds. Conditions: each theorem's own.
-/
import Derived.Test.YtnofbeeihdgmdaaDoorBds
import Derived.Test.YtnofbeeihdgmdaaDoorPts
namespace Go.Proofs.YtnofbeeihdgmdaaDoor
open Go.RowKit

/-- The numbers of a list of bonds. -/
def bC (L : List Bd) (i j : Nat) : Int := if j = 0 then ((L.getD i default).a : Int) else if j = 1 then ((L.getD i default).b : Int) else (L.getD i default).s
theorem bC_snoc (L : List Bd) (x : Bd) : cRow 3 (bC (L ++ [x])) (L ++ [x]).length = cRow 3 (bC L) L.length ++ [.int .i64 (x.a : Int), .int .i64 (x.b : Int), .int .i64 x.s] := by
  rw [List.length_append, List.length_singleton, cRow]
  congr 1
  · exact cRow_congr fun i j hi hj => by simp [bC, List.getD_eq_getElem?_getD, List.getElem?_append_left hi]
  · simp [cCells, bC, List.range_succ, List.getD_eq_getElem?_getD]
/-- v is a slice of these bonds, in a row of a call's own. -/
def BRow (w : World) (base : Nat) (v : Value) (L : List Bd) : Prop := w.ownsRow base 86 3 v L.length (cRow 3 (bC L) L.length)
/-- v is a slice of these bonds, in memory of its own. -/
def OwnB (w : World) (lo hi : Nat) (v : Value) (L : List Bd) : Prop := OwnC w 86 3 lo hi v L.length (bC L)
theorem BRow.own {w : World} {base : Nat} {v : Value} {L : List Bd} (h : BRow w base v L) : OwnB w base w.heap.size v L := OwnC.of_row h
theorem info_bond : (Tryd.prog.info? 86).map (fun i => (i.zero, i.size, i.bytes)) = some (some (.agg #[.int .i64 0, .int .i64 0, .int .i64 0]), 3, 24) := by kernel_rfl
theorem tcOf_len (ps : List Pl) (i : Nat) (d : Int) : (tcOf ps i d).length ≤ 1 := by unfold tcOf; split <;> simp
theorem tcs_len (ps : List Pl) (i : Nat) : (tcs ps i).length ≤ 2 * i := by
  induction i with
  | zero => simp [tcs]
  | succ i ih =>
    have a := tcOf_len ps i 1
    have b := tcOf_len ps i 0
    simp only [tcs, List.length_append]; omega
theorem bdsT_len (S : Set_) (ps : List Pl) (ts : List Tc) : (bdsT S ps ts).length ≤ ts.length := by
  induction ts with
  | nil => simp [bdsT]
  | cons t ts ih =>
    have : (bdOf S ps t).length ≤ 1 := by unfold bdOf; split <;> simp
    simp only [bdsT, List.flatMap_cons, List.length_append, List.length_cons] at ih ⊢
    omega
theorem bdsT_small {S : Set_} {ps : List Pl} {ts : List Tc} (h : ts <+: tcs ps ps.length) (hl : ps.length ≤ 500) : (bdsT S ps ts).length ≤ 1000 := by
  have a := bdsT_len S ps ts
  have b := h.length_le
  have c := tcs_len ps ps.length
  omega

theorem l06Neighbor_any (q : Nat) (v : Value) (ps : List Pl) (i : Nat) (d : Int) (w : World) (hq : At1 w q v) (hv : Plcs w v ps) (hF : Form ps) (hi : i < ps.length) (h0 : 0 ≤ d) (h3 : d ≤ 3) :
    Calls Tryd.prog 86 #[.pointer (some ⟨q, 0, none⟩), .int .i64 (i : Int), .int .i64 d] w fun e w' => e = .returned (.int .i64 (ixI ps (stepX (pX ps i) d) (stepY (pY ps i) d))) ∧ Below w.heap.size w w' := by
  have HV := Lib.hid hv
  have HQ := Lib.hid hq
  obtain ⟨ao, cap, rfl, hl, hm, hc⟩ := hv.open_
  obtain ⟨b, off, rfl, H1⟩ := hc (by omega)
  obtain ⟨c0, c1, c2⟩ := H1 i hi
  have r0 := hq.c0
  unfold maxLen at hm
  have hxy : inB (pX ps i) (-60) 60 = true ∧ inB (pY ps i) (-60) 60 = true := by simpa [ptB] using (hF.all i hi).pt
  have hx := inB_iff.1 hxy.1
  have hy := inB_iff.1 hxy.2
  have h500 := hF.len
  clear hc H1 hv hq hxy
  go_enter Tryd.func86, Tryd.ntmps86
  go_wp2_with (first
    | (go_at_call 72; refine (l01Step_any (pX ps i) (pY ps i) d _ (by omega) (by omega) hx.1 hx.2 hy.1 hy.2).mono ?_; rintro e w3 ⟨rfl, hb3⟩; have sz3 := hb3.size)
    | (go_at_call 102; refine (l03Index_any q _ ps (stepX (pX ps i) d) (stepY (pY ps i) d) _ (HQ.out.below (show Below w.heap.size w _ by (repeat (first | exact Below.refl _ _ | refine Below.setCell ?_ (by first | (simp; done) | (simp; omega) | omega) _ | refine belowN ?_ _ | refine Below.drew ?_ | refine Below.alloc ?_ (by first | (simp; done) | (simp; omega) | omega) _ | refine Below.trans ?_ (Below.mono (by assumption) (by first | (simp; done) | (simp; omega) | omega)))))) (HV.out.below (show Below w.heap.size w _ by (repeat (first | exact Below.refl _ _ | refine Below.setCell ?_ (by first | (simp; done) | (simp; omega) | omega) _ | refine belowN ?_ _ | refine Below.drew ?_ | refine Below.alloc ?_ (by first | (simp; done) | (simp; omega) | omega) _ | refine Below.trans ?_ (Below.mono (by assumption) (by first | (simp; done) | (simp; omega) | omega)))))) hF).mono ?_; rintro e w4 ⟨rfl, hb4⟩; have sz4 := hb4.size))
  go_ret
  exact ⟨rfl, hb3.trans (hb4.mono sz3)⟩

set_option maxRecDepth 100000 in
set_option maxHeartbeats 8000000 in
set_option linter.unusedSimpArgs false in
theorem l06Bonds_any (p q : Nat) (vg vt v : Value) (S : Set_) (ps : List Pl) (w : World) (hp : At w p vg vt) (hq : At1 w q v) (hS : SetIn w vg vt S) (sm : S.small) (hv : Plcs w v ps) (hva : Va S ps) :
    Calls Tryd.prog 54 #[.pointer (some ⟨p, 0, none⟩), .pointer (some ⟨q, 0, none⟩)] w fun e w' => (∃ v', e = .returned v' ∧ OwnB w' w.heap.size w'.heap.size v' (bdsT S ps (tcs ps ps.length))) ∧ Below w.heap.size w w' := by
  have HV := Lib.hid hv
  have HS := Lib.hid hS
  have HP := Lib.hid hp
  have HQ := Lib.hid hq
  have HVA := Lib.hid hva
  obtain ⟨ao, cap, rfl, hl, hm, hc⟩ := hv.open_
  unfold maxLen at hm
  have H0 := Lib.hid hc
  have h500 := hva.F.len
  have r0 := hq.c0
  obtain ⟨i0, hi, hz0', hz1, hz2⟩ := info_parts info_bond
  clear hv hc hS hp hq hva
  go_enter Tryd.func54, Tryd.ntmps54
  go_wp2_with fail
  go_loopw [5, 6] (fun o i wr => ∃ (k : Nat) (x : Value), k ≤ ps.length ∧ i = .int .i64 k ∧ x = o ∧ BRow wr w.heap.size x (bdsT S ps (tcs ps k)) ∧ Below w.heap.size w wr) (fun _ i _ => ps.length - (intOf i).toNat)
  case atStart => exact ⟨0, _, by omega, rfl, rfl, World.ownsRow_lit _ _ _ (Nat.le_refl _) (by unfold maxLen; omega) rfl, by (repeat (first | exact Below.refl _ _ | refine Below.setCell ?_ (by first | (simp; done) | (simp; omega) | omega) _ | refine belowN ?_ _ | refine Below.drew ?_ | refine Below.alloc ?_ (by first | (simp; done) | (simp; omega) | omega) _ | refine Below.trans ?_ (Below.mono (by assumption) (by first | (simp; done) | (simp; omega) | omega))))⟩
  case round =>
    obtain ⟨k, x, hk, rfl, rfl, hown, hbw⟩ := hrel
    have r1 := cell_below hbw r0
    by_cases hlt : k < ps.length
    · obtain ⟨b, off, rfl, H1⟩ := H0.out (by omega)
      obtain ⟨hta, hkt⟩ := HVA.out.tl hlt
      have HTA := Lib.hid hta
      have hia : (k : Int) < ps.length := by omega
      clear hta
      go_wp2_with fail
      clear r1
      go_loopw [5, 7] (fun o i wq => ∃ (e : Nat) (x : Value), e ≤ 2 ∧ i = .int .i64 (1 - (e : Int)) ∧ x = o ∧ BRow wq w.heap.size x (bdsT S ps (tcP ps k e)) ∧ Below w.heap.size w wq) (fun _ i _ => (intOf i + 1).toNat)
      case atStart => exact ⟨0, _, by omega, rfl, rfl, hown, hbw⟩
      case round =>
        clear hown hbw
        obtain ⟨e, x, he, rfl, rfl, hown, hbq⟩ := hrel
        have sq := hbq.size
        have r1 := cell_below hbq r0
        have ca := cell_below hbq (H1 k hlt).2.2
        rw [HTA.out] at ca
        obtain rfl | rfl | rfl : e = 0 ∨ e = 1 ∨ e = 2 := by omega
        · have hd0 : (1 : Int) - ((0 : Nat) : Int) = 1 := by decide
          rw [hd0]
          by_cases hk1 : ixN ps (stepX (pX ps k) 1) (stepY (pY ps k) 1) < ps.length
          · obtain ⟨m, hme⟩ : ∃ m, ixN ps (stepX (pX ps k) 1) (stepY (pY ps k) 1) = m := ⟨_, rfl⟩
            have hml : m < ps.length := by omega
            have HI := Lib.hid (ixI_yes hml hme)
            have HNX : Hid (tcP ps k (0 + 1) = tcP ps k 0 ++ [⟨k, 1, m⟩]) := Lib.hid (by rw [tcP_1, tcOf_yes hml hme])
            obtain ⟨htb, htbl⟩ := HVA.out.tl hml
            have cb := cell_below hbq (H1 m hml).2.2
            rw [htb] at cb
            have hib : (m : Int) < ps.length := by omega
            obtain ⟨z, hz⟩ : ∃ z, bondZ S (tlN ps k) 1 (tlN ps m) ((1 + 2) % 4) = z := ⟨_, rfl⟩
            have HBZ : Hid (bdZ S ps ⟨k, 1, m⟩ = z) := Lib.hid (by unfold bdZ; exact hz)
            have HZ := Lib.hid hz
            have hkk : decide ((k : Int) < 0) = false := by simp
            clear hk1 hme htb hz
            go_wp2_with (go_at_call 86; refine (l06Neighbor_any q _ ps k 1 _ (HQ.out.below hbq) (HV.out.below hbq) HVA.out.F hlt (by omega) (by omega)).mono ?_; rintro e w3 ⟨rfl, hb3⟩; rw [HI.out]; have r3 := cell_below hb3 r1; have ca3 := cell_below hb3 ca; have cb3 := cell_below hb3 cb; have z3 := hb3.size)
            have B3 : Below w.heap.size w w3 := hbq.trans (hb3.mono sq)
            have HO3 := Lib.hid (ownsRow_keep hown hb3)
            clear ca cb r1
            refine wp_region_held_drew (S := (fun w' => w'.cell? ⟨q, 0, none⟩ = some (.slice (some ⟨b, off, none⟩) ps.length cap) ∧ w'.cell? ⟨b, off + k * 3 + 2, none⟩ = some (.int .i64 (tlN ps k : Int)) ∧ w'.cell? ⟨b, off + m * 3 + 2, none⟩ = some (.int .i64 (tlN ps m : Int)))) (by kernel_rfl) ?_ (fun hHeld => ?_)
            · (try dsimp only)
              (((try go_split_ands); (try dsimp only); (repeat' apply And.intro)) <;> (repeat (first | with_reducible assumption | ((with_reducible refine cnew0 ?_); simp; done) | ((with_reducible refine cnew1 ?_); simp; done) | (with_reducible refine akeep ?_) | (with_reducible refine dkeep ?_) | ((with_reducible refine skeep ?_ ?_); rotate_left; (first | ((try dsimp only); omega) | (simp; done) | (simp; omega))) | (with_reducible refine bkeep hb3 ?_))))
            refine wpAnyH_take (i := 0) (oi := ⟨_, _, _, _, _, _⟩) (v := ?_) rfl (by kernel_rfl) (by kernel_rfl) (by kernel_rfl) (fun _ _ _ h => h) (Or.inl ⟨by rfl, ?_⟩) (by assumption) ?_
            rotate_left
            · (intro w hSw; (try dsimp only at hSw); go_simp; (try with_reducible rfl))
            (try simp only [Act.put, List.setIfInBounds_toArray, List.set_cons_zero, List.set_cons_succ])
            refine wpAnyH_take (i := 1) (oi := ⟨_, _, _, _, _, _⟩) (v := ?_) rfl (by kernel_rfl) (by kernel_rfl) (by kernel_rfl) (fun _ _ _ h => h) (Or.inl ⟨by rfl, ?_⟩) (by assumption) ?_
            rotate_left
            · (intro w hSw; (try dsimp only at hSw); go_simp; (try with_reducible rfl))
            (try simp only [Act.put, List.setIfInBounds_toArray, List.set_cons_zero, List.set_cons_succ])
            refine wpAnyH_take (i := 2) (oi := ⟨_, _, _, _, _, _⟩) (v := ?_) rfl (by kernel_rfl) (by kernel_rfl) (by kernel_rfl) (fun _ _ _ h => h) (Or.inl ⟨by rfl, ?_⟩) (by assumption) ?_
            rotate_left
            · (intro w hSw; (try dsimp only at hSw); go_simp; (try with_reducible rfl))
            (try simp only [Act.put, List.setIfInBounds_toArray, List.set_cons_zero, List.set_cons_succ])
            refine wpAnyH_take (i := 3) (oi := ⟨_, _, _, _, _, _⟩) (v := ?_) rfl (by kernel_rfl) (by kernel_rfl) (by kernel_rfl) (fun _ _ _ h => h) (Or.inl ⟨by rfl, ?_⟩) (by assumption) ?_
            rotate_left
            · (intro w hSw; (try dsimp only at hSw); go_simp; (try with_reducible rfl))
            (try simp only [Act.put, List.setIfInBounds_toArray, List.set_cons_zero, List.set_cons_succ])
            refine wpAnyH_take (i := 4) (oi := ⟨_, _, _, _, _, _⟩) (v := ?_) rfl (by kernel_rfl) (by kernel_rfl) (by kernel_rfl) (fun _ _ _ h => h) (Or.inl ⟨by rfl, ?_⟩) (by assumption) ?_
            rotate_left
            · (intro w hSw; (try dsimp only at hSw); go_simp; (try with_reducible rfl))
            (try simp only [Act.put, List.setIfInBounds_toArray, List.set_cons_zero, List.set_cons_succ])
            refine wpAnyH_take (i := 5) (oi := ⟨_, _, _, _, _, _⟩) (v := ?_) rfl (by kernel_rfl) (by kernel_rfl) (by kernel_rfl) (fun _ _ _ h => h) (Or.inl ⟨by rfl, ?_⟩) (by assumption) ?_
            rotate_left
            · (intro w hSw; (try dsimp only at hSw); go_simp; (try with_reducible rfl))
            (try simp only [Act.put, List.setIfInBounds_toArray, List.set_cons_zero, List.set_cons_succ])
            refine wpAnyH_take (i := 6) (oi := ⟨_, _, _, _, _, _⟩) (v := ?_) rfl (by kernel_rfl) (by kernel_rfl) (by kernel_rfl) (fun _ _ _ h => h) (Or.inl ⟨by rfl, ?_⟩) (by assumption) ?_
            rotate_left
            · (intro w hSw; (try dsimp only at hSw); go_simp; (try with_reducible rfl))
            (try simp only [Act.put, List.setIfInBounds_toArray, List.set_cons_zero, List.set_cons_succ])
            refine wpAnyH_take (i := 7) (oi := ⟨_, _, _, _, _, _⟩) (v := ?_) rfl (by kernel_rfl) (by kernel_rfl) (by kernel_rfl) (fun _ _ _ h => h) (Or.inl ⟨by rfl, ?_⟩) (by assumption) ?_
            rotate_left
            · (intro w hSw; (try dsimp only at hSw); go_simp; (try with_reducible rfl))
            (try simp only [Act.put, List.setIfInBounds_toArray, List.set_cons_zero, List.set_cons_succ])
            refine wpAnyH_take (i := 8) (oi := ⟨_, _, _, _, _, _⟩) (v := ?_) rfl (by kernel_rfl) (by kernel_rfl) (by kernel_rfl) (fun _ _ _ h => h) (Or.inl ⟨by rfl, ?_⟩) (by assumption) ?_
            rotate_left
            · (intro w hSw; (try dsimp only at hSw); go_simp; (try with_reducible rfl))
            (try simp only [Act.put, List.setIfInBounds_toArray, List.set_cons_zero, List.set_cons_succ])
            refine wpAnyH_take (i := 9) (oi := ⟨_, _, _, _, _, _⟩) (v := ?_) rfl (by kernel_rfl) (by kernel_rfl) (by kernel_rfl) (fun _ _ _ h => h) (Or.inl ⟨by rfl, ?_⟩) (by assumption) ?_
            rotate_left
            · (intro w hSw; (try dsimp only at hSw); go_simp; (try with_reducible rfl))
            (try simp only [Act.put, List.setIfInBounds_toArray, List.set_cons_zero, List.set_cons_succ])
            refine wpAnyH_take (i := 10) (oi := ⟨_, _, _, _, _, _⟩) (v := ?_) rfl (by kernel_rfl) (by kernel_rfl) (by kernel_rfl) (fun _ _ _ h => h) (Or.inl ⟨by rfl, ?_⟩) (by assumption) ?_
            rotate_left
            · (intro w hSw; (try dsimp only at hSw); go_simp; (try with_reducible rfl))
            (try simp only [Act.put, List.setIfInBounds_toArray, List.set_cons_zero, List.set_cons_succ])
            refine wpAnyH_take (i := 11) (oi := ⟨_, _, _, _, _, _⟩) (v := ?_) rfl (by kernel_rfl) (by kernel_rfl) (by kernel_rfl) (fun _ _ _ h => h) (Or.inl ⟨by rfl, ?_⟩) (by assumption) ?_
            rotate_left
            · (intro w hSw; (try dsimp only at hSw); go_simp; (try with_reducible rfl))
            (try simp only [Act.put, List.setIfInBounds_toArray, List.set_cons_zero, List.set_cons_succ])
            refine wpAnyH_take (i := 12) (oi := ⟨_, _, _, _, _, _⟩) (v := ?_) rfl (by kernel_rfl) (by kernel_rfl) (by kernel_rfl) (fun _ _ _ h => h) (Or.inl ⟨by rfl, ?_⟩) (by assumption) ?_
            rotate_left
            · (intro w hSw; (try dsimp only at hSw); go_simp; (try with_reducible rfl))
            (try simp only [Act.put, List.setIfInBounds_toArray, List.set_cons_zero, List.set_cons_succ])
            refine wpAnyH_take (i := 13) (oi := ⟨_, _, _, _, _, _⟩) (v := ?_) rfl (by kernel_rfl) (by kernel_rfl) (by kernel_rfl) (fun _ _ _ h => h) (Or.inl ⟨by rfl, ?_⟩) (by assumption) ?_
            rotate_left
            · (intro w hSw; (try dsimp only at hSw); go_simp; (try with_reducible rfl))
            (try simp only [Act.put, List.setIfInBounds_toArray, List.set_cons_zero, List.set_cons_succ])
            refine wpAnyH_take (i := 14) (oi := ⟨_, _, _, _, _, _⟩) (v := ?_) rfl (by kernel_rfl) (by kernel_rfl) (by kernel_rfl) (fun _ _ _ h => h) (Or.inl ⟨by rfl, ?_⟩) (by assumption) ?_
            rotate_left
            · (intro w hSw; (try dsimp only at hSw); go_simp; (try with_reducible rfl))
            (try simp only [Act.put, List.setIfInBounds_toArray, List.set_cons_zero, List.set_cons_succ])
            refine wpAnyH_take (i := 15) (oi := ⟨_, _, _, _, _, _⟩) (v := ?_) rfl (by kernel_rfl) (by kernel_rfl) (by kernel_rfl) (fun _ _ _ h => h) (Or.inl ⟨by rfl, ?_⟩) (by assumption) ?_
            rotate_left
            · (intro w hSw; (try dsimp only at hSw); go_simp; (try with_reducible rfl))
            (try simp only [Act.put, List.setIfInBounds_toArray, List.set_cons_zero, List.set_cons_succ])
            refine wpAnyH_take (i := 16) (oi := ⟨_, _, _, _, _, _⟩) (v := ?_) rfl (by kernel_rfl) (by kernel_rfl) (by kernel_rfl) (fun _ _ _ h => h) (Or.inl ⟨by rfl, ?_⟩) (by assumption) ?_
            rotate_left
            · (intro w hSw; (try dsimp only at hSw); go_simp; (try with_reducible rfl))
            (try simp only [Act.put, List.setIfInBounds_toArray, List.set_cons_zero, List.set_cons_succ])
            refine wpAnyH_take (i := 17) (oi := ⟨_, _, _, _, _, _⟩) (v := ?_) rfl (by kernel_rfl) (by kernel_rfl) (by kernel_rfl) (fun _ _ _ h => h) (Or.inl ⟨by rfl, ?_⟩) (by assumption) ?_
            rotate_left
            · (intro w hSw; (try dsimp only at hSw); go_simp; (try with_reducible rfl))
            (try simp only [Act.put, List.setIfInBounds_toArray, List.set_cons_zero, List.set_cons_succ])
            refine wpAnyH_ready (rs := [18]) (by kernel_rfl) (by simp) ?_
            refine AllReadyH.cons (o := ⟨_, _, _, _, _, _⟩) rfl (fun K hK => ?_) AllReadyH.nil
            go_simp
            (go_at_call 73; refine (l02Bond_any p vg vt S (tlN ps k) 1 (tlN ps m) ((1 + 2) % 4) _ (HP.out.below (show Below w.heap.size w _ by (repeat (first | exact Below.refl _ _ | refine Below.setCell ?_ (by first | (simp; done) | (simp; omega) | omega) _ | refine belowN ?_ _ | refine Below.drew ?_ | refine Below.alloc ?_ (by first | (simp; done) | (simp; omega) | omega) _ | refine Below.trans ?_ (Below.mono (by assumption) (by first | (simp; done) | (simp; omega) | omega)))))) (HS.out.below (show Below w.heap.size w _ by (repeat (first | exact Below.refl _ _ | refine Below.setCell ?_ (by first | (simp; done) | (simp; omega) | omega) _ | refine belowN ?_ _ | refine Below.drew ?_ | refine Below.alloc ?_ (by first | (simp; done) | (simp; omega) | omega) _ | refine Below.trans ?_ (Below.mono (by assumption) (by first | (simp; done) | (simp; omega) | omega)))))) sm HVA.out.V hkt (by omega) htbl rfl).mono ?_; rintro e w4 ⟨rfl, hb3⟩; rw [HZ.out])
            refine hK.out _ _ ?_ (fun hHeld => ?_)
            · (try dsimp only)
              (((try go_split_ands); (try dsimp only); (repeat' apply And.intro)) <;> (repeat (first | with_reducible assumption | ((with_reducible refine cnew0 ?_); simp; done) | ((with_reducible refine cnew1 ?_); simp; done) | (with_reducible refine akeep ?_) | (with_reducible refine dkeep ?_) | ((with_reducible refine skeep ?_ ?_); rotate_left; (first | ((try dsimp only); omega) | (simp; done) | (simp; omega))) | (with_reducible refine bkeep hb3 ?_))))
            clear hK K
            (try simp only [Act.put, List.setIfInBounds_toArray, List.set_cons_zero, List.set_cons_succ])
            refine wpAnyH_take (i := 19) (oi := ⟨_, _, _, _, _, _⟩) (v := ?_) rfl (by kernel_rfl) (by kernel_rfl) (by kernel_rfl) (fun _ _ _ h => h) (Or.inl ⟨by rfl, ?_⟩) (by assumption) ?_
            rotate_left
            · (intro w hSw; (try dsimp only at hSw); go_simp; (try with_reducible rfl))
            (try simp only [Act.put, List.setIfInBounds_toArray, List.set_cons_zero, List.set_cons_succ])
            refine wpAnyH_done (by kernel_rfl) ?_ _
            have b34 : Below w3.heap.size w3 w4 := by (repeat (first | exact Below.refl _ _ | refine Below.setCell ?_ (by first | (simp; done) | (simp; omega) | omega) _ | refine belowN ?_ _ | refine Below.drew ?_ | refine Below.alloc ?_ (by first | (simp; done) | (simp; omega) | omega) _ | refine Below.trans ?_ (Below.mono (by assumption) (by first | (simp; done) | (simp; omega) | omega))))
            have z4 := b34.size
            have B4 : Below w.heap.size w w4 := B3.trans (b34.mono (by omega))
            have HO4 := Lib.hid (ownsRow_keep HO3.out b34)
            have hsm : (bdsT S ps (tcP ps k 0)).length ≤ 1000 := bdsT_small (tcP_pre hlt) h500
            clear hb3 HO3 B3 b34 hHeld r3 ca3 cb3
            by_cases hz0 : 0 < z
            · have hzb : decide ((0 : Int) < z) = true := by simpa using hz0
              have HSN : Hid (bdsT S ps (tcP ps k (0 + 1)) = bdsT S ps (tcP ps k 0) ++ [⟨k, m, z⟩]) := Lib.hid (by rw [HNX.out, bdsT_snoc, bdOf_yes (by rw [HBZ.out]; exact hz0), HBZ.out])
              go_wp2_with (at_builtin; refine wpList_append_own _ rfl _ _ 51 rfl w.heap.size 86 i0 (.agg #[.int .i64 0, .int .i64 0, .int .i64 0]) 3 24 Tryd.underlying51 hi hz0' hz1 hz2 rfl (by decide) _ _ _ rfl (HO4.out.alloc _) ⟨w4.heap.size, 0, none⟩ 1 1 [.int .i64 (k : Int), .int .i64 (m : Int), .int .i64 z] rfl rfl (World.news_of_block (cs := #[.int .i64 (k : Int), .int .i64 (m : Int), .int .i64 z]) (t := 86) (fr := (0, 0)) (heap_alloc_new w4 _)) (by simp [Value.oneCell']) (maxLen_of (by omega)) (by omega) (by simp; omega) ?_; intro v' w5 hown5 hgrow5 _)
              go_roundw
              case rel => exact ⟨0 + 1, v', by omega, by first | rfl | go_num | simp, rfl, by rw [HSN.out]; unfold BRow; rw [bC_snoc, List.length_append]; exact hown5, (B4.alloc (by omega) _).grown hgrow5 (by simp; omega) (fun j hj => own_block_ge HO4.out j hj)⟩
              case measure => simp [intOf]
            · have hzb : decide ((0 : Int) < z) = false := by simpa using hz0
              have HSN : Hid (bdsT S ps (tcP ps k (0 + 1)) = bdsT S ps (tcP ps k 0)) := Lib.hid (by rw [HNX.out, bdsT_snoc, bdOf_no (by rw [HBZ.out]; exact hz0), List.append_nil])
              go_wp2_with fail
              go_roundw
              case rel => exact ⟨0 + 1, _, by omega, by first | rfl | go_num | simp, rfl, by rw [HSN.out]; exact HO4.out, B4⟩
              case measure => simp [intOf]
          · have HI : Hid (ixI ps (stepX (pX ps k) 1) (stepY (pY ps k) 1) = -1) := Lib.hid (by unfold ixI; rw [if_neg hk1])
            have HNX : Hid (tcP ps k (0 + 1) = tcP ps k 0) := Lib.hid (by rw [tcP_1, tcOf_no hk1, List.append_nil])
            clear hk1 ca r1
            go_wp2_with (go_at_call 86; refine (l06Neighbor_any q _ ps k 1 _ (HQ.out.below hbq) (HV.out.below hbq) HVA.out.F hlt (by omega) (by omega)).mono ?_; rintro e w3 ⟨rfl, hb3⟩; rw [HI.out])
            go_roundw
            case rel => exact ⟨0 + 1, _, by omega, by first | rfl | go_num | simp, rfl, by rw [HNX.out]; exact ownsRow_keep hown hb3, hbq.trans (hb3.mono sq)⟩
            case measure => simp [intOf]
        · have hd0 : (1 : Int) - ((1 : Nat) : Int) = 0 := by decide
          rw [hd0]
          by_cases hk1 : ixN ps (stepX (pX ps k) 0) (stepY (pY ps k) 0) < ps.length
          · obtain ⟨m, hme⟩ : ∃ m, ixN ps (stepX (pX ps k) 0) (stepY (pY ps k) 0) = m := ⟨_, rfl⟩
            have hml : m < ps.length := by omega
            have HI := Lib.hid (ixI_yes hml hme)
            have HNX : Hid (tcP ps k (1 + 1) = tcP ps k 1 ++ [⟨k, 0, m⟩]) := Lib.hid (by rw [tcP_2, tcOf_yes hml hme])
            obtain ⟨htb, htbl⟩ := HVA.out.tl hml
            have cb := cell_below hbq (H1 m hml).2.2
            rw [htb] at cb
            have hib : (m : Int) < ps.length := by omega
            obtain ⟨z, hz⟩ : ∃ z, bondZ S (tlN ps k) 0 (tlN ps m) ((0 + 2) % 4) = z := ⟨_, rfl⟩
            have HBZ : Hid (bdZ S ps ⟨k, 0, m⟩ = z) := Lib.hid (by unfold bdZ; exact hz)
            have HZ := Lib.hid hz
            have hkk : decide ((k : Int) < 0) = false := by simp
            clear hk1 hme htb hz
            go_wp2_with (go_at_call 86; refine (l06Neighbor_any q _ ps k 0 _ (HQ.out.below hbq) (HV.out.below hbq) HVA.out.F hlt (by omega) (by omega)).mono ?_; rintro e w3 ⟨rfl, hb3⟩; rw [HI.out]; have r3 := cell_below hb3 r1; have ca3 := cell_below hb3 ca; have cb3 := cell_below hb3 cb; have z3 := hb3.size)
            have B3 : Below w.heap.size w w3 := hbq.trans (hb3.mono sq)
            have HO3 := Lib.hid (ownsRow_keep hown hb3)
            clear ca cb r1
            refine wp_region_held_drew (S := (fun w' => w'.cell? ⟨q, 0, none⟩ = some (.slice (some ⟨b, off, none⟩) ps.length cap) ∧ w'.cell? ⟨b, off + k * 3 + 2, none⟩ = some (.int .i64 (tlN ps k : Int)) ∧ w'.cell? ⟨b, off + m * 3 + 2, none⟩ = some (.int .i64 (tlN ps m : Int)))) (by kernel_rfl) ?_ (fun hHeld => ?_)
            · (try dsimp only)
              (((try go_split_ands); (try dsimp only); (repeat' apply And.intro)) <;> (repeat (first | with_reducible assumption | ((with_reducible refine cnew0 ?_); simp; done) | ((with_reducible refine cnew1 ?_); simp; done) | (with_reducible refine akeep ?_) | (with_reducible refine dkeep ?_) | ((with_reducible refine skeep ?_ ?_); rotate_left; (first | ((try dsimp only); omega) | (simp; done) | (simp; omega))) | (with_reducible refine bkeep hb3 ?_))))
            refine wpAnyH_take (i := 0) (oi := ⟨_, _, _, _, _, _⟩) (v := ?_) rfl (by kernel_rfl) (by kernel_rfl) (by kernel_rfl) (fun _ _ _ h => h) (Or.inl ⟨by rfl, ?_⟩) (by assumption) ?_
            rotate_left
            · (intro w hSw; (try dsimp only at hSw); go_simp; (try with_reducible rfl))
            (try simp only [Act.put, List.setIfInBounds_toArray, List.set_cons_zero, List.set_cons_succ])
            refine wpAnyH_take (i := 1) (oi := ⟨_, _, _, _, _, _⟩) (v := ?_) rfl (by kernel_rfl) (by kernel_rfl) (by kernel_rfl) (fun _ _ _ h => h) (Or.inl ⟨by rfl, ?_⟩) (by assumption) ?_
            rotate_left
            · (intro w hSw; (try dsimp only at hSw); go_simp; (try with_reducible rfl))
            (try simp only [Act.put, List.setIfInBounds_toArray, List.set_cons_zero, List.set_cons_succ])
            refine wpAnyH_take (i := 2) (oi := ⟨_, _, _, _, _, _⟩) (v := ?_) rfl (by kernel_rfl) (by kernel_rfl) (by kernel_rfl) (fun _ _ _ h => h) (Or.inl ⟨by rfl, ?_⟩) (by assumption) ?_
            rotate_left
            · (intro w hSw; (try dsimp only at hSw); go_simp; (try with_reducible rfl))
            (try simp only [Act.put, List.setIfInBounds_toArray, List.set_cons_zero, List.set_cons_succ])
            refine wpAnyH_take (i := 3) (oi := ⟨_, _, _, _, _, _⟩) (v := ?_) rfl (by kernel_rfl) (by kernel_rfl) (by kernel_rfl) (fun _ _ _ h => h) (Or.inl ⟨by rfl, ?_⟩) (by assumption) ?_
            rotate_left
            · (intro w hSw; (try dsimp only at hSw); go_simp; (try with_reducible rfl))
            (try simp only [Act.put, List.setIfInBounds_toArray, List.set_cons_zero, List.set_cons_succ])
            refine wpAnyH_take (i := 4) (oi := ⟨_, _, _, _, _, _⟩) (v := ?_) rfl (by kernel_rfl) (by kernel_rfl) (by kernel_rfl) (fun _ _ _ h => h) (Or.inl ⟨by rfl, ?_⟩) (by assumption) ?_
            rotate_left
            · (intro w hSw; (try dsimp only at hSw); go_simp; (try with_reducible rfl))
            (try simp only [Act.put, List.setIfInBounds_toArray, List.set_cons_zero, List.set_cons_succ])
            refine wpAnyH_take (i := 5) (oi := ⟨_, _, _, _, _, _⟩) (v := ?_) rfl (by kernel_rfl) (by kernel_rfl) (by kernel_rfl) (fun _ _ _ h => h) (Or.inl ⟨by rfl, ?_⟩) (by assumption) ?_
            rotate_left
            · (intro w hSw; (try dsimp only at hSw); go_simp; (try with_reducible rfl))
            (try simp only [Act.put, List.setIfInBounds_toArray, List.set_cons_zero, List.set_cons_succ])
            refine wpAnyH_take (i := 6) (oi := ⟨_, _, _, _, _, _⟩) (v := ?_) rfl (by kernel_rfl) (by kernel_rfl) (by kernel_rfl) (fun _ _ _ h => h) (Or.inl ⟨by rfl, ?_⟩) (by assumption) ?_
            rotate_left
            · (intro w hSw; (try dsimp only at hSw); go_simp; (try with_reducible rfl))
            (try simp only [Act.put, List.setIfInBounds_toArray, List.set_cons_zero, List.set_cons_succ])
            refine wpAnyH_take (i := 7) (oi := ⟨_, _, _, _, _, _⟩) (v := ?_) rfl (by kernel_rfl) (by kernel_rfl) (by kernel_rfl) (fun _ _ _ h => h) (Or.inl ⟨by rfl, ?_⟩) (by assumption) ?_
            rotate_left
            · (intro w hSw; (try dsimp only at hSw); go_simp; (try with_reducible rfl))
            (try simp only [Act.put, List.setIfInBounds_toArray, List.set_cons_zero, List.set_cons_succ])
            refine wpAnyH_take (i := 8) (oi := ⟨_, _, _, _, _, _⟩) (v := ?_) rfl (by kernel_rfl) (by kernel_rfl) (by kernel_rfl) (fun _ _ _ h => h) (Or.inl ⟨by rfl, ?_⟩) (by assumption) ?_
            rotate_left
            · (intro w hSw; (try dsimp only at hSw); go_simp; (try with_reducible rfl))
            (try simp only [Act.put, List.setIfInBounds_toArray, List.set_cons_zero, List.set_cons_succ])
            refine wpAnyH_take (i := 9) (oi := ⟨_, _, _, _, _, _⟩) (v := ?_) rfl (by kernel_rfl) (by kernel_rfl) (by kernel_rfl) (fun _ _ _ h => h) (Or.inl ⟨by rfl, ?_⟩) (by assumption) ?_
            rotate_left
            · (intro w hSw; (try dsimp only at hSw); go_simp; (try with_reducible rfl))
            (try simp only [Act.put, List.setIfInBounds_toArray, List.set_cons_zero, List.set_cons_succ])
            refine wpAnyH_take (i := 10) (oi := ⟨_, _, _, _, _, _⟩) (v := ?_) rfl (by kernel_rfl) (by kernel_rfl) (by kernel_rfl) (fun _ _ _ h => h) (Or.inl ⟨by rfl, ?_⟩) (by assumption) ?_
            rotate_left
            · (intro w hSw; (try dsimp only at hSw); go_simp; (try with_reducible rfl))
            (try simp only [Act.put, List.setIfInBounds_toArray, List.set_cons_zero, List.set_cons_succ])
            refine wpAnyH_take (i := 11) (oi := ⟨_, _, _, _, _, _⟩) (v := ?_) rfl (by kernel_rfl) (by kernel_rfl) (by kernel_rfl) (fun _ _ _ h => h) (Or.inl ⟨by rfl, ?_⟩) (by assumption) ?_
            rotate_left
            · (intro w hSw; (try dsimp only at hSw); go_simp; (try with_reducible rfl))
            (try simp only [Act.put, List.setIfInBounds_toArray, List.set_cons_zero, List.set_cons_succ])
            refine wpAnyH_take (i := 12) (oi := ⟨_, _, _, _, _, _⟩) (v := ?_) rfl (by kernel_rfl) (by kernel_rfl) (by kernel_rfl) (fun _ _ _ h => h) (Or.inl ⟨by rfl, ?_⟩) (by assumption) ?_
            rotate_left
            · (intro w hSw; (try dsimp only at hSw); go_simp; (try with_reducible rfl))
            (try simp only [Act.put, List.setIfInBounds_toArray, List.set_cons_zero, List.set_cons_succ])
            refine wpAnyH_take (i := 13) (oi := ⟨_, _, _, _, _, _⟩) (v := ?_) rfl (by kernel_rfl) (by kernel_rfl) (by kernel_rfl) (fun _ _ _ h => h) (Or.inl ⟨by rfl, ?_⟩) (by assumption) ?_
            rotate_left
            · (intro w hSw; (try dsimp only at hSw); go_simp; (try with_reducible rfl))
            (try simp only [Act.put, List.setIfInBounds_toArray, List.set_cons_zero, List.set_cons_succ])
            refine wpAnyH_take (i := 14) (oi := ⟨_, _, _, _, _, _⟩) (v := ?_) rfl (by kernel_rfl) (by kernel_rfl) (by kernel_rfl) (fun _ _ _ h => h) (Or.inl ⟨by rfl, ?_⟩) (by assumption) ?_
            rotate_left
            · (intro w hSw; (try dsimp only at hSw); go_simp; (try with_reducible rfl))
            (try simp only [Act.put, List.setIfInBounds_toArray, List.set_cons_zero, List.set_cons_succ])
            refine wpAnyH_take (i := 15) (oi := ⟨_, _, _, _, _, _⟩) (v := ?_) rfl (by kernel_rfl) (by kernel_rfl) (by kernel_rfl) (fun _ _ _ h => h) (Or.inl ⟨by rfl, ?_⟩) (by assumption) ?_
            rotate_left
            · (intro w hSw; (try dsimp only at hSw); go_simp; (try with_reducible rfl))
            (try simp only [Act.put, List.setIfInBounds_toArray, List.set_cons_zero, List.set_cons_succ])
            refine wpAnyH_take (i := 16) (oi := ⟨_, _, _, _, _, _⟩) (v := ?_) rfl (by kernel_rfl) (by kernel_rfl) (by kernel_rfl) (fun _ _ _ h => h) (Or.inl ⟨by rfl, ?_⟩) (by assumption) ?_
            rotate_left
            · (intro w hSw; (try dsimp only at hSw); go_simp; (try with_reducible rfl))
            (try simp only [Act.put, List.setIfInBounds_toArray, List.set_cons_zero, List.set_cons_succ])
            refine wpAnyH_take (i := 17) (oi := ⟨_, _, _, _, _, _⟩) (v := ?_) rfl (by kernel_rfl) (by kernel_rfl) (by kernel_rfl) (fun _ _ _ h => h) (Or.inl ⟨by rfl, ?_⟩) (by assumption) ?_
            rotate_left
            · (intro w hSw; (try dsimp only at hSw); go_simp; (try with_reducible rfl))
            (try simp only [Act.put, List.setIfInBounds_toArray, List.set_cons_zero, List.set_cons_succ])
            refine wpAnyH_ready (rs := [18]) (by kernel_rfl) (by simp) ?_
            refine AllReadyH.cons (o := ⟨_, _, _, _, _, _⟩) rfl (fun K hK => ?_) AllReadyH.nil
            go_simp
            (go_at_call 73; refine (l02Bond_any p vg vt S (tlN ps k) 0 (tlN ps m) ((0 + 2) % 4) _ (HP.out.below (show Below w.heap.size w _ by (repeat (first | exact Below.refl _ _ | refine Below.setCell ?_ (by first | (simp; done) | (simp; omega) | omega) _ | refine belowN ?_ _ | refine Below.drew ?_ | refine Below.alloc ?_ (by first | (simp; done) | (simp; omega) | omega) _ | refine Below.trans ?_ (Below.mono (by assumption) (by first | (simp; done) | (simp; omega) | omega)))))) (HS.out.below (show Below w.heap.size w _ by (repeat (first | exact Below.refl _ _ | refine Below.setCell ?_ (by first | (simp; done) | (simp; omega) | omega) _ | refine belowN ?_ _ | refine Below.drew ?_ | refine Below.alloc ?_ (by first | (simp; done) | (simp; omega) | omega) _ | refine Below.trans ?_ (Below.mono (by assumption) (by first | (simp; done) | (simp; omega) | omega)))))) sm HVA.out.V hkt (by omega) htbl rfl).mono ?_; rintro e w4 ⟨rfl, hb3⟩; rw [HZ.out])
            refine hK.out _ _ ?_ (fun hHeld => ?_)
            · (try dsimp only)
              (((try go_split_ands); (try dsimp only); (repeat' apply And.intro)) <;> (repeat (first | with_reducible assumption | ((with_reducible refine cnew0 ?_); simp; done) | ((with_reducible refine cnew1 ?_); simp; done) | (with_reducible refine akeep ?_) | (with_reducible refine dkeep ?_) | ((with_reducible refine skeep ?_ ?_); rotate_left; (first | ((try dsimp only); omega) | (simp; done) | (simp; omega))) | (with_reducible refine bkeep hb3 ?_))))
            clear hK K
            (try simp only [Act.put, List.setIfInBounds_toArray, List.set_cons_zero, List.set_cons_succ])
            refine wpAnyH_take (i := 19) (oi := ⟨_, _, _, _, _, _⟩) (v := ?_) rfl (by kernel_rfl) (by kernel_rfl) (by kernel_rfl) (fun _ _ _ h => h) (Or.inl ⟨by rfl, ?_⟩) (by assumption) ?_
            rotate_left
            · (intro w hSw; (try dsimp only at hSw); go_simp; (try with_reducible rfl))
            (try simp only [Act.put, List.setIfInBounds_toArray, List.set_cons_zero, List.set_cons_succ])
            refine wpAnyH_done (by kernel_rfl) ?_ _
            have b34 : Below w3.heap.size w3 w4 := by (repeat (first | exact Below.refl _ _ | refine Below.setCell ?_ (by first | (simp; done) | (simp; omega) | omega) _ | refine belowN ?_ _ | refine Below.drew ?_ | refine Below.alloc ?_ (by first | (simp; done) | (simp; omega) | omega) _ | refine Below.trans ?_ (Below.mono (by assumption) (by first | (simp; done) | (simp; omega) | omega))))
            have z4 := b34.size
            have B4 : Below w.heap.size w w4 := B3.trans (b34.mono (by omega))
            have HO4 := Lib.hid (ownsRow_keep HO3.out b34)
            have hsm : (bdsT S ps (tcP ps k 1)).length ≤ 1000 := bdsT_small (tcP_pre hlt) h500
            clear hb3 HO3 B3 b34 hHeld r3 ca3 cb3
            by_cases hz0 : 0 < z
            · have hzb : decide ((0 : Int) < z) = true := by simpa using hz0
              have HSN : Hid (bdsT S ps (tcP ps k (1 + 1)) = bdsT S ps (tcP ps k 1) ++ [⟨k, m, z⟩]) := Lib.hid (by rw [HNX.out, bdsT_snoc, bdOf_yes (by rw [HBZ.out]; exact hz0), HBZ.out])
              go_wp2_with (at_builtin; refine wpList_append_own _ rfl _ _ 51 rfl w.heap.size 86 i0 (.agg #[.int .i64 0, .int .i64 0, .int .i64 0]) 3 24 Tryd.underlying51 hi hz0' hz1 hz2 rfl (by decide) _ _ _ rfl (HO4.out.alloc _) ⟨w4.heap.size, 0, none⟩ 1 1 [.int .i64 (k : Int), .int .i64 (m : Int), .int .i64 z] rfl rfl (World.news_of_block (cs := #[.int .i64 (k : Int), .int .i64 (m : Int), .int .i64 z]) (t := 86) (fr := (0, 0)) (heap_alloc_new w4 _)) (by simp [Value.oneCell']) (maxLen_of (by omega)) (by omega) (by simp; omega) ?_; intro v' w5 hown5 hgrow5 _)
              go_roundw
              case rel => exact ⟨1 + 1, v', by omega, by first | rfl | go_num | simp, rfl, by rw [HSN.out]; unfold BRow; rw [bC_snoc, List.length_append]; exact hown5, (B4.alloc (by omega) _).grown hgrow5 (by simp; omega) (fun j hj => own_block_ge HO4.out j hj)⟩
              case measure => simp [intOf]
            · have hzb : decide ((0 : Int) < z) = false := by simpa using hz0
              have HSN : Hid (bdsT S ps (tcP ps k (1 + 1)) = bdsT S ps (tcP ps k 1)) := Lib.hid (by rw [HNX.out, bdsT_snoc, bdOf_no (by rw [HBZ.out]; exact hz0), List.append_nil])
              go_wp2_with fail
              go_roundw
              case rel => exact ⟨1 + 1, _, by omega, by first | rfl | go_num | simp, rfl, by rw [HSN.out]; exact HO4.out, B4⟩
              case measure => simp [intOf]
          · have HI : Hid (ixI ps (stepX (pX ps k) 0) (stepY (pY ps k) 0) = -1) := Lib.hid (by unfold ixI; rw [if_neg hk1])
            have HNX : Hid (tcP ps k (1 + 1) = tcP ps k 1) := Lib.hid (by rw [tcP_2, tcOf_no hk1, List.append_nil])
            clear hk1 ca r1
            go_wp2_with (go_at_call 86; refine (l06Neighbor_any q _ ps k 0 _ (HQ.out.below hbq) (HV.out.below hbq) HVA.out.F hlt (by omega) (by omega)).mono ?_; rintro e w3 ⟨rfl, hb3⟩; rw [HI.out])
            go_roundw
            case rel => exact ⟨1 + 1, _, by omega, by first | rfl | go_num | simp, rfl, by rw [HNX.out]; exact ownsRow_keep hown hb3, hbq.trans (hb3.mono sq)⟩
            case measure => simp [intOf]
        · have hd0 : (1 : Int) - ((2 : Nat) : Int) = -1 := by decide
          rw [hd0]
          clear ca r1
          go_wp2_with fail
          go_roundw
          case rel => exact ⟨k + 1, _, by omega, by go_num, rfl, hown, hbq⟩
          case measure => simp [intOf]; omega
    · obtain rfl : k = ps.length := by omega
      go_wp2_with fail
      go_ret
      exact ⟨⟨_, rfl, BRow.own hown⟩, hbw⟩
end Go.Proofs.YtnofbeeihdgmdaaDoor
