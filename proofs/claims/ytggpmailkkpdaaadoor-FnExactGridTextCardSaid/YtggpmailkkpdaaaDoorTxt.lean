/-
  The text of a set of tiles, as bytes; one line of it, and the word for a glue, the model's and the program's. Conditions: each theorem's own.
-/
import Derived.Test.YtggpmailkkpdaaaDoorBld
import Derived.Test.YtggpmailkkpdaaaDoorBonds
import Derived.Test.YtggpmailkkpdaaaDoorDecI
import Derived.Lib.Join
namespace Go.Proofs.YtggpmailkkpdaaaDoor
open Go.RowKit

/-- The word for a glue. -/
def gNm (gs : List Gl) (z : Int) : ByteArray := if z = 0 then ⟨#[45]⟩ else gN gs (z.toNat - 1)
theorem gNm_zero (gs : List Gl) : gNm gs 0 = ⟨#[45]⟩ := rfl
theorem gNm_succ (gs : List Gl) (k : Nat) : gNm gs ((k : Int) + 1) = gN gs k := by
  unfold gNm
  rw [if_neg (by omega)]
  congr 1
def gLine (gs : List Gl) (i : Nat) : List UInt8 := [103, 108, 117, 101, 32] ++ (gN gs i).data.toList ++ [32] ++ Lib.itoa (gS gs i) ++ [10]
def gLs (gs : List Gl) : Nat → List UInt8
  | 0 => []
  | k + 1 => gLs gs k ++ gLine gs k
def tSd (gs : List Gl) (zs : List Int) : Nat → List UInt8
  | 0 => []
  | k + 1 => tSd gs zs k ++ (32 :: (gNm gs (iAt zs k)).data.toList)
def tLine (S : Set_) (i : Nat) : List UInt8 := [116, 105, 108, 101, 32] ++ (tN S.ts i).data.toList ++ tSd S.gs (tS S.ts i) 4 ++ [10]
def tLs (S : Set_) : Nat → List UInt8
  | 0 => []
  | k + 1 => tLs S k ++ tLine S k
theorem nm_size {s : ByteArray} (h : nameB s = true) : s.size ≤ 12 := by
  by_cases h1 : 12 < s.size
  · rw [nameB_long h1] at h; cases h
  · omega
theorem name_len {s : ByteArray} (h : nameB s = true) : s.data.toList.length ≤ 12 := by rw [size_list]; exact nm_size h
theorem gNm_len {gs : List Gl} (hg : ∀ i, i < gs.length → gOk gs i) {z : Int} (h0 : 0 ≤ z) (h1 : z ≤ gs.length) : (gNm gs z).size ≤ 12 := by
  unfold gNm
  split
  · decide
  · exact nm_size (hg _ (by omega)).1
theorem gLine_len {gs : List Gl} (hg : ∀ i, i < gs.length → gOk gs i) {i : Nat} (hi : i < gs.length) : (gLine gs i).length ≤ 60 := by
  have h1 := name_len (hg i hi).1
  have h2 := (hg i hi).2.1
  have h3 := Lib.itoa_length_le (gS gs i) (by omega) (by omega)
  simp only [gLine, List.length_append, List.length_cons, List.length_nil]
  omega
theorem gLs_len {gs : List Gl} (hg : ∀ i, i < gs.length → gOk gs i) {k : Nat} (hk : k ≤ gs.length) : (gLs gs k).length ≤ k * 60 := by
  induction k with
  | zero => simp [gLs]
  | succ k ih =>
    have := gLine_len hg (show k < gs.length by omega)
    have := ih (by omega)
    simp only [gLs, List.length_append]
    omega
theorem tSd_len {gs : List Gl} (hg : ∀ i, i < gs.length → gOk gs i) {zs : List Int} (hz : sidesOk zs gs.length) {k : Nat} (hk : k ≤ 4) : (tSd gs zs k).length ≤ k * 13 := by
  induction k with
  | zero => simp [tSd]
  | succ k ih =>
    have h1 := hz.2 k (by omega)
    have h2 := gNm_len hg h1.1 h1.2
    have h3 := size_list (gNm gs (iAt zs k))
    have := ih (by omega)
    simp only [tSd, List.length_append, List.length_cons]
    omega
theorem tLine_len {S : Set_} (V : Valid S) {i : Nat} (hi : i < S.ts.length) : (tLine S i).length ≤ 80 := by
  have h1 := name_len (V.t.all i hi).1
  have h2 := tSd_len V.g.all (V.t.all i hi).2.1 (Nat.le_refl 4)
  simp only [tLine, List.length_append, List.length_cons, List.length_nil]
  omega
theorem tLs_len {S : Set_} (V : Valid S) {k : Nat} (hk : k ≤ S.ts.length) : (tLs S k).length ≤ k * 80 := by
  induction k with
  | zero => simp [tLs]
  | succ k ih =>
    have := tLine_len V (show k < S.ts.length by omega)
    have := ih (by omega)
    simp only [tLs, List.length_append]
    omega
/-- The text of a set. -/
noncomputable def stT (S : Set_) : ByteArray := if validB S = true then ⟨(gLs S.gs S.gs.length ++ tLs S S.ts.length).toArray⟩ else ⟨#[]⟩
theorem stT_no {S : Set_} (h : validB S = false) : stT S = ⟨#[]⟩ := by unfold stT; rw [h]; rfl
theorem stT_yes {S : Set_} (h : validB S = true) : stT S = ⟨(gLs S.gs S.gs.length ++ tLs S S.ts.length).toArray⟩ := by unfold stT; rw [if_pos h]

theorem join3 (a b c : List UInt8) : Lib.join [a, b, c] [32] = a ++ [32] ++ b ++ [32] ++ c := by simp [Lib.join, List.intercalate]
theorem join6 (a b c d e f : List UInt8) : Lib.join [a, b, c, d, e, f] [32] = a ++ [32] ++ b ++ [32] ++ c ++ [32] ++ d ++ [32] ++ e ++ [32] ++ f := by simp [Lib.join, List.intercalate]
/-- A line of words. -/
def lineOf (xs : List ByteArray) : ByteArray := ⟨(Lib.join (List.map (fun x : ByteArray => x.data.toList) xs) [32] ++ [10]).toArray⟩
theorem line_glue (gs : List Gl) (i : Nat) : (lineOf [⟨#[103, 108, 117, 101]⟩, gN gs i, ⟨(Lib.itoa (gS gs i)).toArray⟩]).data.toList = gLine gs i := by
  show Lib.join [[103, 108, 117, 101], (gN gs i).data.toList, Lib.itoa (gS gs i)] [32] ++ [10] = _
  rw [join3]
  simp [gLine]
theorem line_tile (S : Set_) (i : Nat) : (lineOf ([⟨#[116, 105, 108, 101]⟩, tN S.ts i] ++ (List.range 4).map fun k => gNm S.gs (iAt (tS S.ts i) k))).data.toList = tLine S i := by
  show Lib.join [[116, 105, 108, 101], (tN S.ts i).data.toList, (gNm S.gs (iAt (tS S.ts i) 0)).data.toList, (gNm S.gs (iAt (tS S.ts i) 1)).data.toList, (gNm S.gs (iAt (tS S.ts i) 2)).data.toList, (gNm S.gs (iAt (tS S.ts i) 3)).data.toList] [32] ++ [10] = _
  rw [join6]
  simp [tLine, tSd]
theorem lineOf_size (xs : List ByteArray) : (lineOf xs).size = (Lib.join (List.map (fun x : ByteArray => x.data.toList) xs) [32]).length + 1 := by
  rw [Lib.size_eq]
  simp [lineOf]

set_option maxHeartbeats 1000000 in
theorem textLine_any (bk cap n : Nat) (xs : List ByteArray) (w : World) (hx : xs.length = n) (hc : ∀ (j : Nat) x, xs[j]? = some x → w.cell? ⟨bk, 0 + j, none⟩ = some (.string x)) (hbk : bk < w.heap.size) (hN : n ≤ 100000) (hcap : n ≤ cap) (hlen : (Lib.join (List.map (fun x : ByteArray => x.data.toList) xs) [32]).length ≤ 1048576) :
    Calls Tryd.prog 36 #[.slice (some ⟨bk, 0, none⟩) n cap] w fun e w' => e = .returned (.string (lineOf xs)) ∧ Below w.heap.size w w' := by
  subst hx
  have J := Tryd.strings_Join bk 0 cap xs ⟨#[32]⟩ w hc hbk (by omega) hcap (by show (Lib.join _ [32]).length ≤ _; omega)
  have e1 : (⟨(Lib.join (List.map (fun x : ByteArray => x.data.toList) xs) (⟨#[32]⟩ : ByteArray).data.toList).toArray⟩ : ByteArray) = ⟨(Lib.join (List.map (fun x : ByteArray => x.data.toList) xs) [32]).toArray⟩ := rfl
  rw [e1] at J
  have e2 : (⟨(Lib.join (List.map (fun x : ByteArray => x.data.toList) xs) [32]).toArray⟩ : ByteArray) ++ ⟨#[10]⟩ = lineOf xs := by
    apply ByteArray.ext
    simp [lineOf, ByteArray.data_append]
  have hl : ¬ 9223372036854775807 < (Lib.join (List.map (fun x : ByteArray => x.data.toList) xs) [32]).length + 1 := by omega
  have E := Lib.hid e2
  clear hc e1 e2
  generalize Lib.join (List.map (fun x : ByteArray => x.data.toList) xs) [32] = L at *
  go_enter Tryd.func36, Tryd.ntmps36
  go_wp2_with fail
  refine J.mono ?_
  rintro e w1 ⟨rfl, hb1⟩
  go_wp2
  go_ret
  exact ⟨by rw [← E.out]; rfl, hb1⟩

theorem glueText_any (vg vt : Value) (gs : List Gl) (z : Int) (w : World) (hg : Glues w vg gs) (h0 : 0 ≤ z) (h1 : z ≤ gs.length) :
    Calls Tryd.prog 38 #[.agg #[vg, vt], .int .i64 z] w fun e w' => e = .returned (.string (gNm gs z)) ∧ Below w.heap.size w w' := by
  by_cases hz : z = 0
  · subst hz
    rw [gNm_zero]
    go_enter Tryd.func38, Tryd.ntmps38
    go_wp2
    go_ret
    exact ⟨rfl, by (repeat (first | exact Below.refl _ _ | refine Below.setCell ?_ (by first | (simp; done) | (simp; omega) | omega) _ | refine belowN ?_ _ | refine Below.drew ?_ | refine Below.alloc ?_ (by first | (simp; done) | (simp; omega) | omega) _ | refine Below.trans ?_ (Below.mono (by assumption) (by first | (simp; done) | (simp; omega) | omega))))⟩
  · obtain ⟨k, rfl⟩ : ∃ k : Nat, z = (k : Int) + 1 := ⟨(z - 1).toNat, by omega⟩
    rw [gNm_succ]
    obtain ⟨b, off, cap, rfl, hl, hm, hc⟩ := glues_open hg (by omega)
    obtain ⟨c0, c1⟩ := hc k (by omega)
    have c0 := akeep (o := .cells #[.slice (some ⟨b, off, none⟩) gs.length cap, vt] 36) c0
    unfold maxLen at hm
    clear hc
    have hz' : ((k : Int) + 1 == 0) = false := by rw [beq_eq_false_iff_ne]; omega
    have hk : k < gs.length := by omega
    go_enter Tryd.func38, Tryd.ntmps38
    go_wp2
    go_ret
    exact ⟨rfl, by (repeat (first | exact Below.refl _ _ | refine Below.setCell ?_ (by first | (simp; done) | (simp; omega) | omega) _ | refine belowN ?_ _ | refine Below.drew ?_ | refine Below.alloc ?_ (by first | (simp; done) | (simp; omega) | omega) _ | refine Below.trans ?_ (Below.mono (by assumption) (by first | (simp; done) | (simp; omega) | omega))))⟩
theorem l05GlueName_any (p : Nat) (vg vt : Value) (gs : List Gl) (z : Int) (w : World) (hp : At w p vg vt) (hg : Glues w vg gs) (h0 : 0 ≤ z) (h1 : z ≤ gs.length) :
    Calls Tryd.prog 67 #[.pointer (some ⟨p, 0, none⟩), .int .i64 z] w fun e w' => e = .returned (.string (gNm gs z)) ∧ Below w.heap.size w w' := by
  by_cases hz : z = 0
  · subst hz
    rw [gNm_zero]
    go_enter Tryd.func67, Tryd.ntmps67
    go_wp2
    go_ret
    exact ⟨rfl, by (repeat (first | exact Below.refl _ _ | refine Below.setCell ?_ (by first | (simp; done) | (simp; omega) | omega) _ | refine belowN ?_ _ | refine Below.drew ?_ | refine Below.alloc ?_ (by first | (simp; done) | (simp; omega) | omega) _ | refine Below.trans ?_ (Below.mono (by assumption) (by first | (simp; done) | (simp; omega) | omega))))⟩
  · obtain ⟨k, rfl⟩ : ∃ k : Nat, z = (k : Int) + 1 := ⟨(z - 1).toNat, by omega⟩
    rw [gNm_succ]
    obtain ⟨b, off, cap, rfl, hl, hm, hc⟩ := glues_open hg (by omega)
    obtain ⟨c0, c1⟩ := hc k (by omega)
    obtain ⟨k0, k1⟩ := hp
    unfold maxLen at hm
    clear hc
    have hz' : ((k : Int) + 1 == 0) = false := by rw [beq_eq_false_iff_ne]; omega
    have hk : k < gs.length := by omega
    go_enter Tryd.func67, Tryd.ntmps67
    go_wp2
    go_ret
    exact ⟨rfl, by (repeat (first | exact Below.refl _ _ | refine Below.setCell ?_ (by first | (simp; done) | (simp; omega) | omega) _ | refine belowN ?_ _ | refine Below.drew ?_ | refine Below.alloc ?_ (by first | (simp; done) | (simp; omega) | omega) _ | refine Below.trans ?_ (Below.mono (by assumption) (by first | (simp; done) | (simp; omega) | omega))))⟩

/-- An append of a text at a step of a region that draws. -/
theorem step_append_str {P : Program} (w : World) {ops : Array Oper} {o : Oper} {a : Act} {K : Act → World → Prop} {Q : Exit → Act → World → Prop} {E : Prop} (hgd : o.guard = none) (sl x : Operand) (t u : TypeId)
    (ho : o.op = .call { callee := .builtin .append, args := #[sl, x], argTypes := #[t, u] })
    (base : Nat) (e : TypeId) (i : TypeInfo) (ht : P.underlying t = some (.slice e)) (hu : P.underlying u = some .string) (hi : P.info? e = some i) (hz : i.zero = some (.int .u8 0))
    (hsize : i.size = 1) (hby : i.bytes = 1) (v : Value) (n : Nat) (xs : List Value) (hs : a.eval sl = v) (hown : w.ownsRow base e 1 v n xs) (s : ByteArray) (hx : a.eval x = .string s)
    (h63 : n + s.size ≤ maxLen) (hbytes : n + s.size ≤ 140737488355328) (hbase : base ≤ w.heap.size)
    (h : ∀ v' w', w'.ownsRow base e 1 v' (n + s.size) (xs ++ Lib.strCells s) → w.grownBy w' v.ownBlock → K (a.put o.dst v') w') :
    if Region.wanted o (yielded ops a.tmps) = true then Oper.wp P o a w K Q else E := by
  have hw : Region.wanted o (yielded ops a.tmps) = true := by simp [Region.wanted, hgd]
  rw [if_pos hw]
  obtain ⟨v', w', hr, h2, h3, -⟩ := Lib.run_append_own_string (P := P) w base t u o.type e i ht hu hi hz hsize hby v n xs hown s h63 hbytes hbase
  unfold Oper.wp execOp
  simp only [ho, resolve, invoke, builtin, Sem.run_bind, Sem.run_pure, Result.andThen_ok, List.map_toArray, List.map_cons, List.map_nil, hs, hx, hr]
  exact h v' w' h2 h3

end Go.Proofs.YtggpmailkkpdaaaDoor
