/- The reference's way to the words of a block, as plain functions of lists: it comes to the same words. -/
import Derived.Test.YtihgmgphfdjcfaaDoorMath2
namespace Go.Proofs.YtihgmgphfdjcfaaDoor

/-- The word that begins at byte k. -/
def wd (b : List UInt8) (k : Nat) : UInt32 :=
  (b[k]?.getD 0).toUInt32 <<< 24 ||| (b[k + 1]?.getD 0).toUInt32 <<< 16 ||| (b[k + 2]?.getD 0).toUInt32 <<< 8 ||| (b[k + 3]?.getD 0).toUInt32
/-- The first n words of the block at 'at'. -/
def wl (b : List UInt8) (at_ n : Nat) : List UInt32 := (List.range n).map fun t => wd b (at_ + 4 * t)
theorem wl_length (b : List UInt8) (at_ n : Nat) : (wl b at_ n).length = n := by simp [wl]
theorem wl_succ (b : List UInt8) (at_ n : Nat) : wl b at_ (n + 1) = wl b at_ n ++ [wd b (at_ + 4 * n)] := by simp [wl, List.range_succ]
/-- The words behind the sixteenth, n of them. -/
def ext (L : List UInt32) : Nat → List UInt32
  | 0 => L
  | n + 1 => ext L n ++ [rot ((ext L n)[13 + n]?.getD 0 ^^^ (ext L n)[8 + n]?.getD 0 ^^^ (ext L n)[2 + n]?.getD 0 ^^^ (ext L n)[n]?.getD 0) 1]
theorem ext_length (L : List UInt32) : ∀ n, (ext L n).length = L.length + n
  | 0 => rfl
  | n + 1 => by rw [ext, List.length_append, ext_length L n]; rfl
/-- n of the eight bytes that say how long a text is. -/
def lb (m n : Nat) : List UInt8 := (List.range n).map fun j => UInt8.ofNat (m * 8 / 2 ^ (56 - 8 * j))
theorem lb_length (m n : Nat) : (lb m n).length = n := by simp [lb]
theorem lb_succ (m n : Nat) : lb m (n + 1) = lb m n ++ [UInt8.ofNat (m * 8 / 2 ^ (56 - 8 * n))] := by simp [lb, List.range_succ]
theorem lb_eight (m : Nat) : lb m 8 = lbs m 8 := by rfl

theorem getD_append (l r : List UInt32) (i : Nat) (h : i < l.length) : (l ++ r)[i]?.getD 0 = l[i]?.getD 0 := by
  rw [List.getElem?_append_left h]
theorem sq_ext (L : List UInt32) (h : L.length = 16) : ∀ n, n ≤ 64 → sq (L ++ List.replicate 64 0) n = ext L n ++ List.replicate (64 - n) 0
  | 0, _ => rfl
  | n + 1, hn => by
    have hl := ext_length L n
    rw [h] at hl
    rw [sq, sq_ext L h n (by omega), getD_append _ _ _ (by omega), getD_append _ _ _ (by omega), getD_append _ _ _ (by omega), getD_append _ _ _ (by omega),
      List.set_append_right _ _ (by omega), hl, show 16 + n - (16 + n) = 0 by omega, show 64 - n = 64 - (n + 1) + 1 by omega, List.replicate_succ, List.set_cons_zero, ext,
      List.append_assoc, List.singleton_append]

theorem shl_or (x y z v : UInt32) : (((((0 : UInt32) <<< 8 ||| x) <<< 8 ||| y) <<< 8 ||| z) <<< 8 ||| v) = (x <<< 24 ||| y <<< 16 ||| z <<< 8 ||| v) := by
  apply UInt32.toBitVec_inj.1
  have e8 : ∀ u : UInt32, (u <<< (8 : UInt32)).toBitVec = u.toBitVec <<< 8 := fun u => rfl
  have e16 : ∀ u : UInt32, (u <<< (16 : UInt32)).toBitVec = u.toBitVec <<< 16 := fun u => rfl
  have e24 : ∀ u : UInt32, (u <<< (24 : UInt32)).toBitVec = u.toBitVec <<< 24 := fun u => rfl
  have e0 : (0 : UInt32) <<< 8 = 0 := rfl
  have ez : ∀ u : UInt32, 0 ||| u = u := fun u => by apply UInt32.toBitVec_inj.1; simp
  rw [e0, ez]
  simp only [UInt32.toBitVec_or, e8, e16, e24, BitVec.shiftLeft_or_distrib, ← BitVec.shiftLeft_add]
theorem set_head (l : List UInt32) (x y : UInt32) (r : List UInt32) (i : Nat) (h : i = l.length) : (l ++ x :: r).set i y = l ++ y :: r := by
  subst h; simp
theorem get_head (l : List UInt32) (x : UInt32) (r : List UInt32) (i : Nat) (h : i = l.length) : (l ++ x :: r)[i]?.getD 0 = x := by
  subst h; simp
theorem pw_wl (bs : List UInt8) : ∀ n, n ≤ 16 → pw bs (4 * n) = wl bs 0 n ++ List.replicate (80 - n) 0
  | 0, _ => rfl
  | n + 1, hn => by
    have hl := wl_length bs 0 n
    have e0 : (4 * n) / 4 = n := by omega
    have e1 : (4 * n + 1) / 4 = n := by omega
    have e2 : (4 * n + 2) / 4 = n := by omega
    have e3 : (4 * n + 3) / 4 = n := by omega
    rw [show 4 * (n + 1) = 4 * n + 3 + 1 by omega, pw, pw, pw, pw, pw_wl bs n (by omega), e0, e1, e2, e3, show 80 - n = 80 - (n + 1) + 1 by omega, List.replicate_succ]
    simp only [set_head _ _ _ _ n hl.symm, get_head _ _ _ n hl.symm]
    rw [shl_or, wl_succ, List.append_assoc, List.singleton_append, Nat.zero_add]
    rfl
theorem sched_ext (bs : List UInt8) : sched bs = ext (wl bs 0 16) 64 := by
  rw [sched, show 64 = 4 * 16 from rfl, pw_wl bs 16 (by omega)]
  have := sq_ext (wl bs 0 16) (wl_length _ _ _) 64 (by omega)
  simpa using this
theorem wd_block (b : List UInt8) (at_ k : Nat) (hk : k + 3 < 64) : wd ((b.drop at_).take 64) k = wd b (at_ + k) := by
  simp only [wd, List.getElem?_take, List.getElem?_drop]
  rw [if_pos (by omega), if_pos (by omega), if_pos (by omega), if_pos (by omega)]
  rfl
theorem wl_block (b : List UInt8) (at_ : Nat) : wl ((b.drop at_).take 64) 0 16 = wl b at_ 16 := by
  simp only [wl]
  apply List.map_congr_left
  intro t ht
  rw [List.mem_range] at ht
  rw [Nat.zero_add, wd_block b at_ (4 * t) (by omega)]
/-- The words of the block at 'at'. -/
theorem sched_block (b : List UInt8) (at_ : Nat) : sched ((b.drop at_).take 64) = ext (wl b at_ 16) 64 := by rw [sched_ext, wl_block]

/-- The padded text, with c noughts. -/
theorem full_eq (t : List UInt8) : full t = t ++ [128] ++ zs ((119 - t.length % 64) % 64) ++ lb t.length 8 := by
  rw [full, padL, lb_eight]; simp
end Go.Proofs.YtihgmgphfdjcfaaDoor
