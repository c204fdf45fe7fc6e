/- SHA-1 in pieces, as plain functions: the state behind a text, and what a piece makes of it. -/
import Derived.Test.YtihgmgphfdjcfaaDoorMath
namespace Go.Proofs.YtihgmgphfdjcfaaDoor

/-- The words ahead of the first block. -/
def start5 : S5 := ⟨0x67452301, 0xefcdab89, 0x98badcfe, 0x10325476, 0xc3d2e1f0⟩
/-- The words behind the first k blocks of a text. -/
def hsh (t : List UInt8) : Nat → S5
  | 0 => start5
  | k + 1 => blk (hsh t k) ((t.drop (64 * k)).take 64)
theorem hsh_append (t s : List UInt8) : ∀ k, 64 * k ≤ t.length → hsh (t ++ s) k = hsh t k
  | 0, _ => rfl
  | k + 1, h => by
    have e : ((t ++ s).drop (64 * k)).take 64 = (t.drop (64 * k)).take 64 := by
      rw [List.drop_append_of_le_length (by omega), List.take_append_of_le_length (by rw [List.length_drop]; omega)]
    rw [hsh, hsh, hsh_append t s k (by omega), e]

/-- The state behind a text: the words behind its whole blocks; the begun block's bytes. -/
structure Inv (t : List UInt8) (ws : S5) (bg : List UInt8) : Prop where
  words : ws = hsh t (t.length / 64)
  len : bg.length = 64
  begun : bg.take (t.length % 64) = t.drop (64 * (t.length / 64))

/-- The begun block behind a piece of m bytes that is put at 'at'. -/
def put (bg r : List UInt8) (i m : Nat) : List UInt8 := bg.take i ++ r.take m ++ bg.drop (i + m)
theorem put_length (bg r : List UInt8) (i m : Nat) (h : bg.length = 64) (hi : i + m ≤ 64) (hm : m ≤ r.length) : (put bg r i m).length = 64 := by
  simp only [put, List.length_append, List.length_take, List.length_drop]; omega

theorem inv_put {t : List UInt8} {ws : S5} {bg : List UInt8} (h : Inv t ws bg) (r : List UInt8) (m : Nat) (hm : m ≤ r.length) :
    (put bg r (t.length % 64) m).take (t.length % 64 + m) = (t ++ r.take m).drop (64 * (t.length / 64)) := by
  have e1 : (bg.take (t.length % 64) ++ r.take m).length = t.length % 64 + m := by
    rw [List.length_append, List.length_take, List.length_take, h.len]; omega
  rw [put, List.take_append_of_le_length (by omega), List.take_of_length_le (by omega), h.begun, List.drop_append_of_le_length (by omega)]

theorem inv_less {t : List UInt8} {ws : S5} {bg : List UInt8} (h : Inv t ws bg) (r : List UInt8) (m : Nat) (hm : m ≤ r.length) (hi : t.length % 64 + m < 64) :
    Inv (t ++ r.take m) ws (put bg r (t.length % 64) m) := by
  have hl : (t ++ r.take m).length = t.length + m := by rw [List.length_append, List.length_take]; omega
  have hq : (t ++ r.take m).length / 64 = t.length / 64 := by rw [hl]; omega
  have hr : (t ++ r.take m).length % 64 = t.length % 64 + m := by rw [hl]; omega
  refine ⟨?_, put_length _ _ _ _ h.len (by omega) hm, ?_⟩
  · rw [hq, hsh_append _ _ _ (by omega)]; exact h.words
  · rw [hq, hr]; exact inv_put h r m hm

theorem inv_full {t : List UInt8} {ws : S5} {bg : List UInt8} (h : Inv t ws bg) (r : List UInt8) (m : Nat) (hm : m ≤ r.length) (hi : t.length % 64 + m = 64) :
    Inv (t ++ r.take m) (blk ws (put bg r (t.length % 64) m)) (put bg r (t.length % 64) m) := by
  have hl : (t ++ r.take m).length = t.length + m := by rw [List.length_append, List.length_take]; omega
  have hq : (t ++ r.take m).length / 64 = t.length / 64 + 1 := by rw [hl]; omega
  have hr : (t ++ r.take m).length % 64 = 0 := by rw [hl]; omega
  have hp := put_length bg r (t.length % 64) m h.len (by omega) hm
  have hb := inv_put h r m hm
  rw [hi, List.take_of_length_le (by omega)] at hb
  refine ⟨?_, hp, ?_⟩
  · rw [hq, hsh, hsh_append _ _ _ (by omega), ← h.words, ← hb, List.take_of_length_le (by omega)]
  · rw [hq, hr, List.take_zero, List.drop_of_length_le (by rw [hl]; omega)]

theorem inv_start (bg : List UInt8) (h : bg.length = 64) : Inv [] start5 bg := ⟨rfl, h, by simp⟩

/-- A text with what stands behind it. -/
def full (t : List UInt8) : List UInt8 := t ++ padL t.length
theorem padL_length (n : Nat) : (padL n).length = (119 - n % 64) % 64 + 9 := by
  rw [padL, List.length_append, lbs_length, List.length_cons, zs_length]
theorem full_mod (t : List UInt8) : (full t).length % 64 = 0 := by
  rw [full, List.length_append, padL_length]; omega
/-- The sum. -/
def shaL (t : List UInt8) : List UInt8 := wbs (hsh (full t) ((full t).length / 64)).l 20

theorem sha_abc : shaL [97, 98, 99] = [169, 153, 62, 54, 71, 6, 129, 106, 186, 62, 37, 113, 120, 80, 194, 108, 156, 208, 216, 157] := by
  decide +kernel

theorem sha_none : shaL [] = [218, 57, 163, 238, 94, 107, 75, 13, 50, 85, 191, 239, 149, 96, 24, 144, 175, 216, 7, 9] := by
  decide +kernel
/-- The chapter's third text. -/
def text3 : List UInt8 := [97, 98, 99, 100, 98, 99, 100, 101, 99, 100, 101, 102, 100, 101, 102, 103, 101, 102, 103, 104, 102, 103, 104, 105, 103, 104, 105, 106, 104, 105, 106, 107, 105, 106, 107, 108, 106, 107, 108, 109, 107, 108, 109, 110, 108, 109, 110, 111, 109, 110, 111, 112, 110, 111, 112, 113]
theorem sha_text3 : shaL text3 = [132, 152, 62, 68, 28, 59, 210, 110, 186, 174, 74, 161, 249, 81, 41, 229, 229, 70, 112, 241] := by
  decide +kernel

end Go.Proofs.YtihgmgphfdjcfaaDoor
