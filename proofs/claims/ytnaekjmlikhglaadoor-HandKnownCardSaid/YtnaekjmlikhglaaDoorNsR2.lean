/- Texts of this proof, one behind the other. -/
import Derived.Test.YtnaekjmlikhglaaDoorNsMath2
import Derived.Test.YtnaekjmlikhglaaDoorNsReg
import Derived.Laws.AppendOwn
import Derived.Lib.ConvBytes
/- The reference's way to the words of a block, as plain functions of lists: it comes to the same words. -/
namespace Go.Proofs.YtnaekjmlikhglaaDoor.sa

/-- The word that begins at byte k. -/
def wd (b : List UInt8) (k : Nat) : UInt32 :=
  (b[k]?.getD 0).toUInt32 <<< 24 ||| (b[k + 1]?.getD 0).toUInt32 <<< 16 ||| (b[k + 2]?.getD 0).toUInt32 <<< 8 ||| (b[k + 3]?.getD 0).toUInt32
/-- The first n words of the block at 'at'. -/
def wl (b : List UInt8) (at_ n : Nat) : List UInt32 := (List.range n).map fun t => wd b (at_ + 4 * t)
theorem wl_length (b : List UInt8) (at_ n : Nat) : (wl b at_ n).length = n := by simp [wl]
theorem wl_succ (b : List UInt8) (at_ n : Nat) : wl b at_ (n + 1) = wl b at_ n ++ [wd b (at_ + 4 * n)] := by simp [wl, List.range_succ]
/-- The words behind the sixteenth, n of them. -/
def ext (L : List UInt32) : Nat → List UInt32
  | 0 => L
  | n + 1 => ext L n ++ [rot ((ext L n)[13 + n]?.getD 0 ^^^ (ext L n)[8 + n]?.getD 0 ^^^ (ext L n)[2 + n]?.getD 0 ^^^ (ext L n)[n]?.getD 0) 1]
theorem ext_length (L : List UInt32) : ∀ n, (ext L n).length = L.length + n
  | 0 => rfl
  | n + 1 => by rw [ext, List.length_append, ext_length L n]; rfl
/-- n of the eight bytes that say how long a text is. -/
def lb (m n : Nat) : List UInt8 := (List.range n).map fun j => UInt8.ofNat (m * 8 / 2 ^ (56 - 8 * j))
theorem lb_length (m n : Nat) : (lb m n).length = n := by simp [lb]
theorem lb_succ (m n : Nat) : lb m (n + 1) = lb m n ++ [UInt8.ofNat (m * 8 / 2 ^ (56 - 8 * n))] := by simp [lb, List.range_succ]
theorem lb_eight (m : Nat) : lb m 8 = lbs m 8 := by rfl

theorem getD_append (l r : List UInt32) (i : Nat) (h : i < l.length) : (l ++ r)[i]?.getD 0 = l[i]?.getD 0 := by
  rw [List.getElem?_append_left h]
theorem sq_ext (L : List UInt32) (h : L.length = 16) : ∀ n, n ≤ 64 → sq (L ++ List.replicate 64 0) n = ext L n ++ List.replicate (64 - n) 0
  | 0, _ => rfl
  | n + 1, hn => by
    have hl := ext_length L n
    rw [h] at hl
    rw [sq, sq_ext L h n (by omega), getD_append _ _ _ (by omega), getD_append _ _ _ (by omega), getD_append _ _ _ (by omega), getD_append _ _ _ (by omega),
      List.set_append_right _ _ (by omega), hl, show 16 + n - (16 + n) = 0 by omega, show 64 - n = 64 - (n + 1) + 1 by omega, List.replicate_succ, List.set_cons_zero, ext,
      List.append_assoc, List.singleton_append]

theorem shl_or (x y z v : UInt32) : (((((0 : UInt32) <<< 8 ||| x) <<< 8 ||| y) <<< 8 ||| z) <<< 8 ||| v) = (x <<< 24 ||| y <<< 16 ||| z <<< 8 ||| v) := by
  apply UInt32.toBitVec_inj.1
  have e8 : ∀ u : UInt32, (u <<< (8 : UInt32)).toBitVec = u.toBitVec <<< 8 := fun u => rfl
  have e16 : ∀ u : UInt32, (u <<< (16 : UInt32)).toBitVec = u.toBitVec <<< 16 := fun u => rfl
  have e24 : ∀ u : UInt32, (u <<< (24 : UInt32)).toBitVec = u.toBitVec <<< 24 := fun u => rfl
  have e0 : (0 : UInt32) <<< 8 = 0 := rfl
  have ez : ∀ u : UInt32, 0 ||| u = u := fun u => by apply UInt32.toBitVec_inj.1; simp
  rw [e0, ez]
  simp only [UInt32.toBitVec_or, e8, e16, e24, BitVec.shiftLeft_or_distrib, ← BitVec.shiftLeft_add]
theorem set_head (l : List UInt32) (x y : UInt32) (r : List UInt32) (i : Nat) (h : i = l.length) : (l ++ x :: r).set i y = l ++ y :: r := by
  subst h; simp
theorem get_head (l : List UInt32) (x : UInt32) (r : List UInt32) (i : Nat) (h : i = l.length) : (l ++ x :: r)[i]?.getD 0 = x := by
  subst h; simp
theorem pw_wl (bs : List UInt8) : ∀ n, n ≤ 16 → pw bs (4 * n) = wl bs 0 n ++ List.replicate (80 - n) 0
  | 0, _ => rfl
  | n + 1, hn => by
    have hl := wl_length bs 0 n
    have e0 : (4 * n) / 4 = n := by omega
    have e1 : (4 * n + 1) / 4 = n := by omega
    have e2 : (4 * n + 2) / 4 = n := by omega
    have e3 : (4 * n + 3) / 4 = n := by omega
    rw [show 4 * (n + 1) = 4 * n + 3 + 1 by omega, pw, pw, pw, pw, pw_wl bs n (by omega), e0, e1, e2, e3, show 80 - n = 80 - (n + 1) + 1 by omega, List.replicate_succ]
    simp only [set_head _ _ _ _ n hl.symm, get_head _ _ _ n hl.symm]
    rw [shl_or, wl_succ, List.append_assoc, List.singleton_append, Nat.zero_add]
    rfl
theorem sched_ext (bs : List UInt8) : sched bs = ext (wl bs 0 16) 64 := by
  rw [sched, show 64 = 4 * 16 from rfl, pw_wl bs 16 (by omega)]
  have := sq_ext (wl bs 0 16) (wl_length _ _ _) 64 (by omega)
  simpa using this
theorem wd_block (b : List UInt8) (at_ k : Nat) (hk : k + 3 < 64) : wd ((b.drop at_).take 64) k = wd b (at_ + k) := by
  simp only [wd, List.getElem?_take, List.getElem?_drop]
  rw [if_pos (by omega), if_pos (by omega), if_pos (by omega), if_pos (by omega)]
  rfl
theorem wl_block (b : List UInt8) (at_ : Nat) : wl ((b.drop at_).take 64) 0 16 = wl b at_ 16 := by
  simp only [wl]
  apply List.map_congr_left
  intro t ht
  rw [List.mem_range] at ht
  rw [Nat.zero_add, wd_block b at_ (4 * t) (by omega)]
/-- The words of the block at 'at'. -/
theorem sched_block (b : List UInt8) (at_ : Nat) : sched ((b.drop at_).take 64) = ext (wl b at_ 16) 64 := by rw [sched_ext, wl_block]

/-- The padded text, with c noughts. -/
theorem full_eq (t : List UInt8) : full t = t ++ [128] ++ zs ((119 - t.length % 64) % 64) ++ lb t.length 8 := by
  rw [full, padL, lb_eight]; simp
end Go.Proofs.YtnaekjmlikhglaaDoor.sa
/- A slice that only this call holds, and one element appended to it: laws for the reference's walk. -/
namespace Go.Proofs.YtnaekjmlikhglaaDoor.sa
open Go.RowKit

/-- The slice v holds just these values, in a block made behind 'base', and its room may be written. -/
def Own (base : Nat) (v : Value) (xs : List Value) (w : World) : Prop :=
  (v = .slice none 0 0 ∧ xs = []) ∨
    ∃ g cap, v = .slice (some ⟨g, 0, none⟩) xs.length cap ∧ base ≤ g ∧ g < w.heap.size ∧ xs.length ≤ cap ∧ cap ≤ maxLen ∧ w.rangeAt g 0 xs ∧ w.there g 0 cap

section
variable {w w' : World} {base g n cap : Nat} {v y : Value} {xs : List Value} {e : TypeId}
theorem Own.of_block (h : Own base v xs w) (hs : w.heap.size ≤ w'.heap.size) (hb : ∀ k, v.ownBlock = some k → w'.heap[k]? = w.heap[k]?) : Own base v xs w' := by
  rcases h with h | ⟨g, cap, rfl, h1, h2, h3, h4, h5, h6⟩
  · exact .inl h
  · have e := hb g rfl
    refine .inr ⟨g, cap, rfl, h1, by omega, h3, h4, fun j u hu => ?_, fun j hj => ?_⟩
    · rw [World.cell?_of_block (w := w) e]; exact h5 j u hu
    · rw [World.cell?_of_block (w := w) e, World.frozen?_of_block (w := w) e]; exact h6 j hj
theorem Own.lt (h : Own base v xs w) : ∀ k, v.ownBlock = some k → base ≤ k ∧ k < w.heap.size := by
  intro k hk
  rcases h with ⟨rfl, _⟩ | ⟨g, cap, rfl, h1, h2, _⟩
  · cases hk
  · cases hk; exact ⟨h1, h2⟩
theorem Own.alloc (h : Own base v xs w) (o : Obj) : Own base v xs (w.alloc o) :=
  h.of_block (by simp) (fun k hk => heap_alloc_old w o (h.lt k hk).2)
theorem Own.drew (h : Own base v xs w) : Own base v xs w.drew := h
theorem Own.grown (h : Own base v xs w) {row : Option Nat} (hg : w.grownBy w' row) (hne : ∀ k, v.ownBlock = some k → some k ≠ row) : Own base v xs w' :=
  h.of_block hg.size (fun k hk => hg.block k (h.lt k hk).2 (hne k hk))
theorem Own.below {b : Nat} (h : Own base v xs w) (hb : Below b w w') (hlt : ∀ k, v.ownBlock = some k → k < b) : Own base v xs w' :=
  h.of_block hb.size (fun k hk => hb.block k (hlt k hk))
theorem Own.form (h : Own base v xs w) (hx : xs ≠ []) : ∃ g cap, v = .slice (some ⟨g, 0, none⟩) xs.length cap ∧ base ≤ g ∧ g < w.heap.size ∧ w.rangeAt g 0 xs := by
  rcases h with ⟨_, h⟩ | ⟨g, cap, rfl, h1, h2, _, _, h5, _⟩
  · exact absurd h hx
  · exact ⟨g, cap, rfl, h1, h2, h5⟩
theorem Own.shape (h : Own base v xs w) {n : Nat} (hn : xs.length = n) (h0 : 0 < n) : ∃ g cap, v = .slice (some ⟨g, 0, none⟩) n cap ∧ base ≤ g ∧ g < w.heap.size ∧ w.rangeAt g 0 xs := by
  subst hn
  exact h.form (fun e => by rw [e] at h0; exact absurd h0 (Nat.lt_irrefl 0))
/-- How long a slice is, as a measure. -/
def vlen : Value → Nat
  | .slice _ n _ => n
  | _ => 0
theorem Own.vlen (h : Own base v xs w) : vlen v = xs.length := by
  rcases h with ⟨rfl, rfl⟩ | ⟨g, cap, rfl, _⟩ <;> rfl
theorem row_grown {cs : Array Value} {t : TypeId} (h : Row w g cs t) {row : Option Nat} (hg : w.grownBy w' row) (hne : some g ≠ row) : Row w' g cs t := by
  unfold Row; rw [hg.block g h.lt hne]; exact h
theorem row_kept {b : Nat} {cs : Array Value} {t : TypeId} (h : Row w g cs t) (ho : Own b v xs w) (hg : w.grownBy w' v.ownBlock) (hlt : g < b) : Row w' g cs t :=
  row_grown h hg (fun e => by have := (ho.lt g e.symm).1; omega)
theorem below_own {b b' : Nat} {w0 : World} (h : Below b w0 w) (ho : Own b' v xs w) (hg : w.grownBy w' v.ownBlock) (hle : b ≤ b') (hb : b ≤ w.heap.size) : Below b w0 w' :=
  h.trans ⟨hg.os, hg.tape, hg.output, hg.size, fun k hk => hg.block k (by omega) (fun e => by have := (ho.lt k e.symm).1; omega)⟩
theorem below_grown {b : Nat} {w0 : World} (h : Below b w0 w) {row : Option Nat} (hg : w.grownBy w' row) (hr : ∀ k, row = some k → b ≤ k) (hb : b ≤ w.heap.size) : Below b w0 w' :=
  h.trans ⟨hg.os, hg.tape, hg.output, hg.size, fun k hk => hg.block k (by omega) (fun e => by have := hr k e.symm; omega)⟩

theorem own_new (w : World) (xs : List Value) (Z : Array Value) (cap : Nat) (hc : xs.length ≤ cap) (hm : cap ≤ maxLen) (hz : Z.size = cap - xs.length) (hb : base ≤ w.heap.size) :
    Own base (.slice (some ⟨w.heap.size, 0, none⟩) xs.length cap) xs (w.drew.alloc (.cells (xs.toArray ++ Z) e)) := by
  have hr : Row (w.drew.alloc (.cells (xs.toArray ++ Z) e)) w.heap.size (xs.toArray ++ Z) e := row_new w.drew _ _
  refine .inr ⟨w.heap.size, cap, rfl, hb, hr.lt, hc, hm, fun j u hu => ?_, fun j hj => ?_⟩
  · rw [Nat.zero_add, cell_of_row _ _ j _ _ _ hr]
    have hl : j < xs.length := (List.getElem?_eq_some_iff.1 hu).1
    rw [Array.getElem?_append_left (by simpa using hl)]
    simpa using hu
  · rw [Nat.zero_add]
    refine ⟨?_, hr.frozen j⟩
    rw [cell_of_row _ _ j _ _ _ hr]
    have : j < (xs.toArray ++ Z).size := by rw [Array.size_append, hz, List.size_toArray]; omega
    rw [Array.getElem?_eq_getElem this]; rfl

theorem run_push {P : Program} (w : World) (base : Nat) (t ty e : TypeId) (i : TypeInfo) (z : Value) (ht : P.underlying t = some (.slice e)) (hi : P.info? e = some i) (hz : i.zero = some z) (hs : i.size = 1) (hby : i.bytes ≤ 8) (hzs : z.cells.size = 1)
    (v : Value) (xs : List Value) (hown : Own base v xs w) (ad : Addr) (y : Value) (hy : w.cell? ad = some y) (h1 : y.oneCell' = true) (hlen : xs.length < 1000000000000) (hbase : base ≤ w.heap.size) :
    ∃ v' w', (Builtin.append_ #[t, t] ty #[v, .slice (some ad) 1 1]).run P w = .ok v' w' ∧ Own base v' (xs ++ [y]) w' ∧ w.grownBy w' v.ownBlock ∧ (∀ g n cap, v = .slice (some ⟨g, 0, none⟩) n cap → w'.rangeAt g 0 xs) := by
  have hl : ([y] : List Value).length = 1 * i.size := by rw [hs]; rfl
  have hnews : ∀ j u, ([y] : List Value)[j]? = some u → w.cell? (ad.add j) = some u := by
    intro j u hu
    cases j with
    | zero => simp only [List.getElem?_cons_zero, Option.some.injEq] at hu; subst hu; rw [show ad.add 0 = ad from by unfold Addr.add; rw [if_pos rfl]]; exact hy
    | succ j => simp at hu
  have hlen' : (xs ++ [y]).length = xs.length + 1 := by simp
  have hmul : ∀ k, k * i.bytes ≤ k * 8 := fun k => Nat.mul_le_mul_left k hby
  rcases hown with ⟨rfl, rfl⟩ | ⟨g, cap, rfl, hbg, hgl, hnc, hcm, hcells, hthere⟩
  · have hr := run_append_nil (P := P) w t ty e i z ht hi hz ad 1 1 [y] hl hnews (by omega) (by omega) (by have := hmul 1; omega)
    refine ⟨_, _, hr, ?_, ⟨rfl, rfl, rfl, by simp, fun k hk _ => heap_alloc_old w.drew _ hk⟩, fun g n cap h => by cases h⟩
    exact own_new w [y] _ _ (grownCap_ge w 1 0 e) (grownCap_le_maxLen w 1 0 e (by simp [maxLen])) (by rw [size_zeroCells, hzs, Nat.mul_one]; rfl) hbase
  · by_cases hroom : xs.length + 1 ≤ cap
    · obtain ⟨hc, hf⟩ := hthere xs.length (by omega)
      rw [Nat.zero_add] at hc hf
      have hfc := run_firstCells_some (P := P) w i.size 1 ad 1 1 [y] hl hnews
      have hst : (storeCells ⟨g, xs.length, none⟩ [y]).run P w = .ok () (w.setCell ⟨g, xs.length, none⟩ y) := by
        rw [store_one]; exact run_store_ok P w _ y _ h1 hc hf
      refine ⟨.slice (some ⟨g, 0, none⟩) (xs.length + 1) cap, w.setCell ⟨g, xs.length, none⟩ y, ?_, ?_, ?_, ?_⟩
      · rw [hs] at hfc
        simp [Builtin.append_, run_underlying ht, sizeOf, typeInfo, hi, Builtin.lenOf, hroom, hfc, hs, Addr.add_lit, hst]
      · refine .inr ⟨g, cap, by rw [hlen'], hbg, by simpa [World.setCell] using hgl, by omega, hcm, fun j u hu => ?_, fun j hj => ?_⟩
        · rw [Nat.zero_add]
          rcases Nat.lt_trichotomy j xs.length with hlt | rfl | hgt
          · rw [World.cell?_setCell_other (h := show (⟨g, xs.length, none⟩ : Addr) ≠ ⟨g, j, none⟩ by intro h; simp only [Addr.mk.injEq] at h; omega)]
            have := hcells j u (by rwa [List.getElem?_append_left hlt] at hu)
            rwa [Nat.zero_add] at this
          · rw [List.getElem?_append_right (Nat.le_refl _), Nat.sub_self] at hu
            simp only [List.getElem?_cons_zero, Option.some.injEq] at hu
            subst hu
            obtain ⟨u0, hu0⟩ := Option.isSome_iff_exists.1 hc
            exact World.cell?_setCell_same _ _ _ hu0
          · rw [List.getElem?_eq_none (by omega)] at hu; cases hu
        · obtain ⟨hc2, hf2⟩ := hthere j hj
          refine ⟨?_, by simpa using hf2⟩
          obtain ⟨u0, hu0⟩ := Option.isSome_iff_exists.1 hc2
          obtain ⟨v', hv'⟩ := cell?_setCell_some (p := ⟨g, xs.length, none⟩) (x := y) hu0
          rw [hv']; rfl
      · exact ⟨rfl, rfl, rfl, by simp [World.setCell], fun k _ hn => Below.heap_setCell _ _ _ _ (fun h => hn (by simp [Value.ownBlock, h]))⟩
      · intro g' n' cap' he j u hu
        simp only [Value.slice.injEq, Option.some.injEq, Addr.mk.injEq] at he
        obtain ⟨⟨rfl, _⟩, _⟩ := he
        have hj : j < xs.length := (List.getElem?_eq_some_iff.1 hu).1
        rw [World.cell?_setCell_other (h := show (⟨g, xs.length, none⟩ : Addr) ≠ ⟨g, 0 + j, none⟩ by intro h; simp only [Addr.mk.injEq] at h; omega)]
        exact hcells j u hu
    · have holds : ∀ j u, xs[j]? = some u → w.cell? ((⟨g, 0, none⟩ : Addr).add j) = some u := fun j u hu => by
        rw [Addr.add_mid]; exact hcells j u hu
      have hr := run_append_grow (P := P) w t ty e i z ht hi hz ⟨g, 0, none⟩ xs.length cap xs (by rw [hs, Nat.mul_one]) holds ad 1 1 [y] hl hnews (by omega) (by omega)
        (growslice_fits (by omega) (by have := hmul (xs.length + 1); omega))
      refine ⟨_, _, hr, ?_, ⟨rfl, rfl, rfl, by simp, fun k hk _ => heap_alloc_old w.drew _ hk⟩, ?_⟩
      rotate_left
      · intro g' n' cap' he j u hu
        simp only [Value.slice.injEq, Option.some.injEq, Addr.mk.injEq] at he
        obtain ⟨⟨rfl, _⟩, _⟩ := he
        rw [World.cell?_of_block (w := w) (heap_alloc_old w.drew _ hgl)]
        exact hcells j u hu
      have := own_new (base := base) (e := e) w (xs ++ [y]) (Builtin.zeroCells z.cells (grownCap w (xs.length + 1) cap e - (xs.length + 1))) (grownCap w (xs.length + 1) cap e)
        (by rw [hlen']; exact grownCap_ge w _ _ _) (grownCap_le_maxLen w _ _ _ (by simp only [maxLen]; omega)) (by rw [size_zeroCells, hzs, Nat.mul_one, hlen']) hbase
      simpa using this

theorem info5 : ∃ i z, Tryd.prog.info? 5 = some i ∧ i.zero = some z ∧ i.size = 1 ∧ i.bytes ≤ 8 ∧ z.cells.size = 1 := by
  have h : (Tryd.prog.info? 5).map (fun i => (i.zero, i.size, i.bytes)) = some (some (.int .u8 0), 1, 1) := by kernel_rfl
  cases hi : Tryd.prog.info? 5 with
  | none => simp [hi] at h
  | some i =>
    simp only [hi, Option.map_some, Option.some.injEq, Prod.mk.injEq] at h
    exact ⟨i, _, rfl, h.1, h.2.1, by omega, rfl⟩
theorem info34 : ∃ i z, Tryd.prog.info? 64 = some i ∧ i.zero = some z ∧ i.size = 1 ∧ i.bytes ≤ 8 ∧ z.cells.size = 1 := by
  have h : (Tryd.prog.info? 64).map (fun i => (i.zero, i.size, i.bytes)) = some (some (.int .u32 0), 1, 4) := by kernel_rfl
  cases hi : Tryd.prog.info? 64 with
  | none => simp [hi] at h
  | some i =>
    simp only [hi, Option.map_some, Option.some.injEq, Prod.mk.injEq] at h
    exact ⟨i, _, rfl, h.1, h.2.1, by omega, rfl⟩

section
variable {ops : Array Oper} {rest : List Oper} {o : Oper} {a : Act} {Q : Exit → Act → World → Prop}
/-- One byte appended. -/
theorem wpList_push_byte (hgd : o.guard = none) (s x : Operand) (ho : o.op = .call { callee := .builtin .append, args := #[s, x], argTypes := #[42, 42] }) (base : Nat)
    (v : Value) (hs : a.eval s = v) (l : List UInt8) (hown : Own base v (l.map B) w) (g' : Nat) (y : UInt8) (hx : a.eval x = .slice (some ⟨g', 0, none⟩) 1 1) (hy : w.cell? ⟨g', 0, none⟩ = some (B y)) (hlen : l.length < 1000000000000) (hbase : base ≤ w.heap.size)
    (h : ∀ v' w', Own base v' ((l ++ [y]).map B) w' → w.grownBy w' v.ownBlock → wpList Tryd.prog ops Q rest (a.put o.dst v') w') : wpList Tryd.prog ops Q (o :: rest) a w := by
  subst hs
  obtain ⟨i, z, hi, hz, hs, hby, hzs⟩ := info5
  obtain ⟨v', w', hr, h2, h3, _⟩ := run_push (P := Tryd.prog) w base 42 o.type 5 i z Tryd.underlying42 hi hz hs hby hzs (a.eval s) (l.map B) hown ⟨g', 0, none⟩ (B y) hy rfl (by rw [List.length_map]; exact hlen) hbase
  refine wpList_exec hgd v' w' ?_ (h v' w' (by simpa using h2) h3)
  simp only [execOp, ho, resolve, invoke, builtin, Sem.run_bind, Sem.run_pure, Result.andThen_ok, List.map_toArray, List.map_cons, List.map_nil, hx, hr]
/-- One word appended. -/
theorem wpList_push_word (hgd : o.guard = none) (s x : Operand) (ho : o.op = .call { callee := .builtin .append, args := #[s, x], argTypes := #[72, 72] }) (base : Nat)
    (v : Value) (hs : a.eval s = v) (l : List UInt32) (hown : Own base v (l.map U) w) (g' : Nat) (y : UInt32) (hx : a.eval x = .slice (some ⟨g', 0, none⟩) 1 1) (hy : w.cell? ⟨g', 0, none⟩ = some (U y)) (hlen : l.length < 1000000000000) (hbase : base ≤ w.heap.size)
    (h : ∀ v' w', Own base v' ((l ++ [y]).map U) w' → w.grownBy w' v.ownBlock → wpList Tryd.prog ops Q rest (a.put o.dst v') w') : wpList Tryd.prog ops Q (o :: rest) a w := by
  subst hs
  obtain ⟨i, z, hi, hz, hs, hby, hzs⟩ := info34
  obtain ⟨v', w', hr, h2, h3, _⟩ := run_push (P := Tryd.prog) w base 72 o.type 64 i z Tryd.underlying72 hi hz hs hby hzs (a.eval s) (l.map U) hown ⟨g', 0, none⟩ (U y) hy rfl (by rw [List.length_map]; exact hlen) hbase
  refine wpList_exec hgd v' w' ?_ (h v' w' (by simpa using h2) h3)
  simp only [execOp, ho, resolve, invoke, builtin, Sem.run_bind, Sem.run_pure, Result.andThen_ok, List.map_toArray, List.map_cons, List.map_nil, hx, hr]

theorem own_bytes (l : List UInt8) (hl : l.length < 1000000000000) : Own w.heap.size (.slice (some ⟨w.heap.size, 0, none⟩) l.length (grownCap w l.length 0 5)) (l.map B) (Lib.bytesWorld w 5 ⟨l.toArray⟩) := by
  have hsz : (⟨l.toArray⟩ : ByteArray).size = l.length := S_size l
  have hg := Lib.bytesWorld_at_new w 5 ⟨l.toArray⟩
  have hge := grownCap_ge w l.length 0 5
  have hcs : (Lib.bytesCells w 5 ⟨l.toArray⟩).size = grownCap w l.length 0 5 := by
    simp [Lib.bytesCells, hsz]; omega
  refine .inr ⟨w.heap.size, grownCap w l.length 0 5, by rw [List.length_map], Nat.le_refl _, by rw [Lib.bytesWorld_size]; omega, by rw [List.length_map]; exact hge, grownCap_le_maxLen w _ _ _ (by simp only [maxLen]; omega), fun j u hu => ?_, fun j hj => ?_⟩
  · have hj : j < l.length := by have := (List.getElem?_eq_some_iff.1 hu).1; simpa using this
    rw [Nat.zero_add, Lib.bytesWorld_cell w 5 _ j (by rw [hsz]; exact hj)]
    rw [List.getElem?_map, List.getElem?_eq_getElem hj] at hu
    simp only [Option.map_some, Option.some.injEq] at hu
    rw [← hu]
    simp [B, List.getD, hj]
  · rw [Nat.zero_add]
    refine ⟨?_, ?_⟩
    · rw [World.cell?, hg]
      simp [hcs, hj]
    · rw [World.frozen?, hg]
      simp [hcs]
      omega
theorem grown_bytes (s : ByteArray) (row : Option Nat) : w.grownBy (Lib.bytesWorld w 5 s) row :=
  ⟨rfl, rfl, rfl, by rw [Lib.bytesWorld_size]; omega, fun k hk _ => Lib.bytesWorld_at_old w 5 s k hk⟩
/-- A text's bytes, in a block of their own. -/
theorem wpList_bytes (hgd : o.guard = none) (x : Operand) (ho : o.op = .convert 9 42 x) (l : List UInt8) (hx : a.eval x = S l) (hl : l.length < 1000000000000)
    (h : ∀ v' w', Own w.heap.size v' (l.map B) w' → w.grownBy w' none → wpList Tryd.prog ops Q rest (a.put o.dst v') w') : wpList Tryd.prog ops Q (o :: rest) a w := by
  have hr := Lib.run_convert_string_bytes w 9 42 5 ⟨l.toArray⟩ Tryd.underlying9 Tryd.underlying42 Tryd.underlying5
  rw [S_size] at hr
  refine wpList_exec hgd _ _ ?_ (h _ _ (own_bytes l hl) (grown_bytes _ none))
  simp only [execOp, ho, hx, S, Sem.run_bind, Sem.run_pure, Result.andThen_ok, hr]
end
theorem run_bytes (l : List UInt8) (w : World) : (convert 9 42 (S l)).run Tryd.prog w = .ok (.slice (some ⟨w.heap.size, 0, none⟩) l.length (grownCap w l.length 0 5)) (Lib.bytesWorld w 5 ⟨l.toArray⟩) := by
  have hr := Lib.run_convert_string_bytes w 9 42 5 ⟨l.toArray⟩ Tryd.underlying9 Tryd.underlying42 Tryd.underlying5
  rw [S_size] at hr; exact hr
section
variable {ops : Array Oper} {rest : List Oper} {o : Oper} {a : Act} {Q : Exit → Act → World → Prop}
/-- One byte, laid in a block of its own and appended. -/
theorem wpList_add_byte (hgd : o.guard = none) (s x : Operand) (ho : o.op = .call { callee := .builtin .append, args := #[s, x], argTypes := #[42, 42] }) (base : Nat) (W : World)
    (v : Value) (hs : a.eval s = v) (l : List UInt8) (hown : Own base v (l.map B) W) (y : UInt8) (cs : Array Value) (hcs : cs = #[B y]) (hw : w = W.alloc (.cells cs 5)) (hx : a.eval x = .slice (some ⟨W.heap.size, 0, none⟩) 1 1)
    (hlen : l.length < 1000000000000) (hbase : base ≤ W.heap.size)
    (h : ∀ v' w', Own base v' ((l ++ [y]).map B) w' → W.grownBy w' v.ownBlock → wpList Tryd.prog ops Q rest (a.put o.dst v') w') : wpList Tryd.prog ops Q (o :: rest) a w := by
  subst hw hcs
  refine wpList_push_byte hgd s x ho base v hs l (hown.alloc _) W.heap.size y hx ?_ hlen (by rw [alloc_size]; omega) fun v' w' h1 h2 => h v' w' h1 ?_
  · have hr := row_new W #[B y] 5
    rw [cell_of_row _ _ 0 _ _ _ hr]; rfl
  · exact ⟨h2.os, h2.tape, h2.output, Nat.le_trans (by simp) h2.size, fun k hk hn => (h2.block k (by rw [alloc_size]; omega) hn).trans (heap_alloc_old W _ hk)⟩
/-- One word, laid in a block of its own and appended. -/
theorem wpList_add_word (hgd : o.guard = none) (s x : Operand) (ho : o.op = .call { callee := .builtin .append, args := #[s, x], argTypes := #[72, 72] }) (base : Nat) (W : World)
    (v : Value) (hs : a.eval s = v) (l : List UInt32) (hown : Own base v (l.map U) W) (y : UInt32) (cs : Array Value) (hcs : cs = #[U y]) (hw : w = W.alloc (.cells cs 64)) (hx : a.eval x = .slice (some ⟨W.heap.size, 0, none⟩) 1 1)
    (hlen : l.length < 1000000000000) (hbase : base ≤ W.heap.size)
    (h : ∀ v' w', Own base v' ((l ++ [y]).map U) w' → W.grownBy w' v.ownBlock → wpList Tryd.prog ops Q rest (a.put o.dst v') w') : wpList Tryd.prog ops Q (o :: rest) a w := by
  subst hw hcs
  refine wpList_push_word hgd s x ho base v hs l (hown.alloc _) W.heap.size y hx ?_ hlen (by rw [alloc_size]; omega) fun v' w' h1 h2 => h v' w' h1 ?_
  · have hr := row_new W #[U y] 64
    rw [cell_of_row _ _ 0 _ _ _ hr]; rfl
  · exact ⟨h2.os, h2.tape, h2.output, Nat.le_trans (by simp) h2.size, fun k hk hn => (h2.block k (by rw [alloc_size]; omega) hn).trans (heap_alloc_old W _ hk)⟩
end
end
theorem exec_append {P : Program} {w w' : World} {o : Oper} {a : Act} {v' : Value} (s x : Operand) (t : TypeId) (ho : o.op = .call { callee := .builtin .append, args := #[s, x], argTypes := #[t, t] }) (V X : Value)
    (hs : a.eval s = V) (hx : a.eval x = X) (hr : (Builtin.append_ #[t, t] o.type #[V, X]).run P w = .ok v' w') : (execOp a.eval o).run P w = .ok (.value v') w' := by
  simp only [execOp, ho, resolve, invoke, builtin, Sem.run_bind, Sem.run_pure, Result.andThen_ok, List.map_toArray, List.map_cons, List.map_nil, hs, hx, hr]
end Go.Proofs.YtnaekjmlikhglaaDoor.sa
