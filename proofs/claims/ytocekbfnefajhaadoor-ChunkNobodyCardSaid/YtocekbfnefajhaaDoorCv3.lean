/- The landed reader's way as functions over its cells; it goes as the automaton. -/
import Derived.Test.YtocekbfnefajhaaDoorCv2
namespace Go.Proofs.YtocekbfnefajhaaDoor
open Go.RowKit

def Raw.fail (x : Raw) (e : Nat) : Raw := ⟨4, [], x.body, x.lacks, x.since, x.flds, e⟩
def Raw.dat (x : Raw) (c : UInt8) : Raw := ⟨if x.lacks = 1 then 2 else x.nx, x.line, x.body ++ [c], x.lacks - 1, x.since, x.flds, x.bad⟩
def Raw.endHead (x : Raw) (l : List UInt8) : Raw := match sizeF l with
  | none => x.fail 400
  | some n => if 4096 < x.body.length + n then x.fail 413 else if n = 0 then ⟨3, x.line, x.body, x.lacks, x.since, x.flds, x.bad⟩ else ⟨1, x.line, x.body, n, x.since, x.flds, x.bad⟩
def Raw.endTrailer (x : Raw) (l : List UInt8) : Raw :=
  if l = [] then ⟨4, [], x.body, x.lacks, x.since, x.flds, x.bad⟩
  else if (parseF l).2.2 = false then x.fail 400
  else if 32 < x.flds + 1 then ⟨4, [], x.body, x.lacks, x.since, x.flds + 1, 431⟩
  else ⟨x.nx, x.line, x.body, x.lacks, x.since, x.flds + 1, x.bad⟩
def Raw.endLine (x : Raw) (l : List UInt8) : Raw :=
  if x.nx = 0 then x.endHead l else if x.nx = 2 then ⟨0, x.line, x.body, x.lacks, x.since, x.flds, x.bad⟩ else if x.nx = 3 then x.endTrailer l else x
def Raw.more (x : Raw) : Raw := ⟨x.nx, x.line, x.body, x.lacks, if x.nx = 3 then x.since + 1 else x.since, x.flds, x.bad⟩
def Raw.rest (y : Raw) (c : UInt8) : Raw :=
  if faultN y.nx y.since y.line c ≠ 0 then y.fail (faultN y.nx y.since y.line c)
  else if c ≠ 10 then ⟨y.nx, y.line ++ [c], y.body, y.lacks, y.since, y.flds, y.bad⟩
  else Raw.endLine ⟨y.nx, [], y.body, y.lacks, y.since, y.flds, y.bad⟩ y.line.dropLast
def Raw.read (x : Raw) (c : UInt8) : Raw := if x.nx = 1 then x.dat c else x.more.rest c

/-- The cells stand for the automaton. -/
structure ShpR (st : Cst) (x : Raw) : Prop where
  shp : Shp st.ph x.nx x.line x.lacks x.since x.flds x.bad
  body : x.body = st.data
  room : st.room
theorem endCR_nil : endCR [] = false := rfl
theorem endCR_13 : endCR [13] = true := rfl
theorem endCR_snoc (l : List UInt8) (c : UInt8) : endCR (l ++ [c]) = (c == 13) := by
  unfold endCR
  rw [List.getLast?_append]
  rfl
theorem endCR_pos {l : List UInt8} (h : endCR l = true) : 0 < l.length := by
  cases l with
  | nil => cases h
  | cons a r => simp
theorem shp_head {x : Raw} {d : List UInt8} {l : List UInt8} (hx : x.body = d) (_hn : x.nx = 0) (hl : x.line = []) (h1 : x.since = 0) (h2 : x.flds = 0) (h3 : x.bad = 0) :
    Shp (headF l d) (x.endHead l).nx (x.endHead l).line (x.endHead l).lacks (x.endHead l).since (x.endHead l).flds (x.endHead l).bad ∧ (x.endHead l).body = d := by
  unfold headF Raw.endHead
  cases sizeF l with
  | none => exact ⟨⟨rfl, rfl⟩, hx⟩
  | some n =>
    dsimp only
    rw [hx]
    by_cases hb : 4096 < d.length + n
    · rw [if_pos hb, if_pos hb]; exact ⟨⟨rfl, rfl⟩, hx⟩
    · rw [if_neg hb, if_neg hb]
      by_cases h0 : n = 0
      · rw [if_pos h0, if_pos h0]; exact ⟨⟨rfl, hl, h1, h2, h3, by omega, by simp, by omega⟩, rfl⟩
      · rw [if_neg h0, if_neg h0]; exact ⟨⟨rfl, hl, rfl, h1, h2, h3, by omega, by omega⟩, rfl⟩
theorem shp_tail {x : Raw} {l : List UInt8} {k f : Nat} (hn : x.nx = 3) (hl : x.line = []) (h1 : x.since = k) (h2 : x.flds = f) (h3 : x.bad = 0) (hk : k ≤ 2048) (hf : f ≤ 32) :
    Shp (tailF l k f) (x.endTrailer l).nx (x.endTrailer l).line (x.endTrailer l).lacks (x.endTrailer l).since (x.endTrailer l).flds (x.endTrailer l).bad ∧ (x.endTrailer l).body = x.body := by
  unfold tailF Raw.endTrailer
  by_cases hl0 : l = []
  · rw [if_pos hl0, if_pos hl0]; exact ⟨⟨rfl, h3⟩, rfl⟩
  · rw [if_neg hl0, if_neg hl0]
    by_cases hp : (parseF l).2.2 = false
    · rw [if_pos hp, if_pos hp]; exact ⟨⟨rfl, rfl⟩, rfl⟩
    · rw [if_neg hp, if_neg hp, h2]
      by_cases h32 : f = 32
      · rw [if_pos h32, if_pos (by omega)]; exact ⟨⟨rfl, rfl⟩, rfl⟩
      · rw [if_neg h32, if_neg (by omega)]; exact ⟨⟨hn, hl, h1, rfl, h3, hk, by simp, by omega⟩, rfl⟩
theorem read_shape {st : Cst} {x : Raw} (h : ShpR st x) (hs : st.stop = false) (c : UInt8) : ShpR (st.step c) (x.read c) := by
  have hr := step_room st c h.room
  suffices hh : Shp (st.step c).ph (x.read c).nx (x.read c).line (x.read c).lacks (x.read c).since (x.read c).flds (x.read c).bad ∧ (x.read c).body = (st.step c).data from ⟨hh.1, hh.2, hr⟩
  clear hr
  obtain ⟨hp, hb, hm⟩ := h
  obtain ⟨ph, d⟩ := st
  obtain ⟨nx, line, body, lacks, since, flds, bad⟩ := x
  dsimp only at hp hb
  subst hb
  cases ph with
  | done => cases hs
  | bad e => cases hs
  | head cur =>
    obtain ⟨rfl, rfl, rfl, rfl, rfl, hl⟩ := hp
    show Shp (Cst.step ⟨.head line, body⟩ c).ph (Raw.rest ⟨0, line, body, lacks, 0, 0, 0⟩ c).nx (Raw.rest ⟨0, line, body, lacks, 0, 0, 0⟩ c).line (Raw.rest ⟨0, line, body, lacks, 0, 0, 0⟩ c).lacks (Raw.rest ⟨0, line, body, lacks, 0, 0, 0⟩ c).since (Raw.rest ⟨0, line, body, lacks, 0, 0, 0⟩ c).flds (Raw.rest ⟨0, line, body, lacks, 0, 0, 0⟩ c).bad ∧ (Raw.rest ⟨0, line, body, lacks, 0, 0, 0⟩ c).body = (Cst.step ⟨.head line, body⟩ c).data
    have hst : Cst.step ⟨.head line, body⟩ c = (if endCR line ≠ (c == 10) then ⟨.bad 400, body⟩ else if endCR line = true then ⟨headF line.dropLast body, body⟩ else if 2048 ≤ line.length then ⟨.bad 431, body⟩ else ⟨.head (line ++ [c]), body⟩) := rfl
    rw [hst]
    unfold Raw.rest
    by_cases he : endCR line = (c == 10)
    · rw [if_neg (Classical.not_not.2 he)]
      have hf : faultN 0 0 line c = if c ≠ 10 ∧ line.length = 2048 then 431 else 0 := by
        unfold faultN
        rw [if_neg (by omega), if_neg (Classical.not_not.2 he.symm), if_neg (by rintro ⟨h, _⟩; omega)]
        simp
      dsimp only
      rw [hf]
      by_cases hc : c = 10
      · have hcr : endCR line = true := by rw [he, hc]; rfl
        rw [if_pos hcr, if_neg (by rw [if_neg (by rintro ⟨h, _⟩; exact h hc)]; simp), if_neg (Classical.not_not.2 hc)]
        exact shp_head (x := ⟨0, [], body, lacks, 0, 0, 0⟩) rfl rfl rfl rfl rfl rfl
      · have hcr : ¬ endCR line = true := by rw [he]; simpa using hc
        rw [if_neg hcr]
        by_cases hlen : 2048 ≤ line.length
        · rw [if_pos hlen, if_pos (by rw [if_pos ⟨hc, by omega⟩]; omega), if_pos ⟨hc, by omega⟩]
          exact ⟨⟨rfl, rfl⟩, rfl⟩
        · rw [if_neg hlen, if_neg (by rw [if_neg (by rintro ⟨_, h⟩; omega)]; simp), if_pos hc]
          exact ⟨⟨rfl, rfl, rfl, rfl, rfl, by rw [List.length_append, List.length_singleton]; omega⟩, rfl⟩
    · rw [if_pos he]
      have hf : faultN 0 0 line c = 400 := by
        unfold faultN
        rw [if_neg (by omega), if_pos (fun h => he h.symm)]
      dsimp only
      rw [hf, if_pos (by omega)]
      exact ⟨⟨rfl, rfl⟩, rfl⟩
  | body n =>
    obtain ⟨rfl, rfl, rfl, rfl, rfl, rfl, h1, h2⟩ := hp
    show Shp (if lacks ≤ 1 then Ph.cr else Ph.body (lacks - 1)) (if lacks = 1 then 2 else 1) [] (lacks - 1) 0 0 0 ∧ _
    by_cases h : lacks = 1
    · rw [if_pos (by omega), if_pos h]; exact ⟨⟨rfl, rfl, rfl, rfl, rfl⟩, rfl⟩
    · rw [if_neg (by omega), if_neg h]; exact ⟨⟨rfl, rfl, rfl, rfl, rfl, rfl, by omega, by omega⟩, rfl⟩
  | cr =>
    obtain ⟨rfl, rfl, rfl, rfl, rfl⟩ := hp
    show Shp (if c = 13 then Ph.lf else .bad 400) (Raw.rest ⟨2, [], body, lacks, 0, 0, 0⟩ c).nx (Raw.rest ⟨2, [], body, lacks, 0, 0, 0⟩ c).line (Raw.rest ⟨2, [], body, lacks, 0, 0, 0⟩ c).lacks (Raw.rest ⟨2, [], body, lacks, 0, 0, 0⟩ c).since (Raw.rest ⟨2, [], body, lacks, 0, 0, 0⟩ c).flds (Raw.rest ⟨2, [], body, lacks, 0, 0, 0⟩ c).bad ∧ (Raw.rest ⟨2, [], body, lacks, 0, 0, 0⟩ c).body = body
    unfold Raw.rest
    dsimp only
    by_cases hc : c = 13
    · subst hc
      exact ⟨⟨rfl, rfl, rfl, rfl, rfl⟩, rfl⟩
    · have hf : faultN 2 0 [] c = 400 := by
        unfold faultN
        rw [if_neg (by omega), endCR_nil]
        by_cases h10 : c = 10
        · rw [if_pos (by rw [h10]; decide)]
        · rw [if_neg (by simpa using h10), if_pos ⟨rfl, hc, h10⟩]
      rw [hf, if_neg hc, if_pos (by omega)]
      exact ⟨⟨rfl, rfl⟩, rfl⟩
  | lf =>
    obtain ⟨rfl, rfl, rfl, rfl, rfl⟩ := hp
    show Shp (if c = 10 then Ph.head [] else .bad 400) (Raw.rest ⟨2, [13], body, lacks, 0, 0, 0⟩ c).nx (Raw.rest ⟨2, [13], body, lacks, 0, 0, 0⟩ c).line (Raw.rest ⟨2, [13], body, lacks, 0, 0, 0⟩ c).lacks (Raw.rest ⟨2, [13], body, lacks, 0, 0, 0⟩ c).since (Raw.rest ⟨2, [13], body, lacks, 0, 0, 0⟩ c).flds (Raw.rest ⟨2, [13], body, lacks, 0, 0, 0⟩ c).bad ∧ (Raw.rest ⟨2, [13], body, lacks, 0, 0, 0⟩ c).body = body
    unfold Raw.rest
    dsimp only
    by_cases hc : c = 10
    · subst hc
      exact ⟨⟨rfl, rfl, rfl, rfl, rfl, by simp⟩, rfl⟩
    · have hf : faultN 2 0 [13] c = 400 := by
        unfold faultN
        rw [if_neg (by omega), endCR_13, if_pos (by simpa using hc)]
      rw [hf, if_neg hc, if_pos (by omega)]
      exact ⟨⟨rfl, rfl⟩, rfl⟩
  | tail cur k f =>
    obtain ⟨rfl, rfl, rfl, rfl, rfl, hk, hlen, hf32⟩ := hp
    show Shp (Cst.step ⟨.tail line since flds, body⟩ c).ph (Raw.rest ⟨3, line, body, lacks, since + 1, flds, 0⟩ c).nx (Raw.rest ⟨3, line, body, lacks, since + 1, flds, 0⟩ c).line (Raw.rest ⟨3, line, body, lacks, since + 1, flds, 0⟩ c).lacks (Raw.rest ⟨3, line, body, lacks, since + 1, flds, 0⟩ c).since (Raw.rest ⟨3, line, body, lacks, since + 1, flds, 0⟩ c).flds (Raw.rest ⟨3, line, body, lacks, since + 1, flds, 0⟩ c).bad ∧ (Raw.rest ⟨3, line, body, lacks, since + 1, flds, 0⟩ c).body = (Cst.step ⟨.tail line since flds, body⟩ c).data
    have hst : Cst.step ⟨.tail line since flds, body⟩ c = (if 2048 ≤ since then ⟨.bad 431, body⟩ else if endCR line ≠ (c == 10) then ⟨.bad 400, body⟩ else if endCR line = true then ⟨tailF line.dropLast (since + 1) flds, body⟩ else ⟨.tail (line ++ [c]) (since + 1) flds, body⟩) := rfl
    rw [hst]
    unfold Raw.rest
    dsimp only
    by_cases h8 : 2048 ≤ since
    · have hf : faultN 3 (since + 1) line c = 431 := by unfold faultN; rw [if_pos (by omega)]
      rw [hf, if_pos h8, if_pos (by omega)]
      exact ⟨⟨rfl, rfl⟩, rfl⟩
    · rw [if_neg h8]
      by_cases he : endCR line = (c == 10)
      · rw [if_neg (Classical.not_not.2 he)]
        have hf : faultN 3 (since + 1) line c = 0 := by
          unfold faultN
          rw [if_neg (by omega), if_neg (Classical.not_not.2 he.symm), if_neg (by rintro ⟨h, _⟩; omega), if_neg (by rintro ⟨h, _⟩; omega)]
        rw [hf, if_neg (show ¬ (0 : Nat) ≠ 0 from fun h => h rfl)]
        by_cases hc : c = 10
        · have hcr : endCR line = true := by rw [he, hc]; rfl
          rw [if_pos hcr, if_neg (Classical.not_not.2 hc)]
          exact shp_tail (x := ⟨3, [], body, lacks, since + 1, flds, 0⟩) rfl rfl rfl rfl rfl (by omega) hf32
        · have hcr : ¬ endCR line = true := by rw [he]; simpa using hc
          rw [if_neg hcr, if_pos hc]
          exact ⟨⟨rfl, rfl, rfl, rfl, rfl, by omega, by rw [List.length_append, List.length_singleton]; omega, hf32⟩, rfl⟩
      · rw [if_pos he]
        have hf : faultN 3 (since + 1) line c = 400 := by
          unfold faultN
          rw [if_neg (by omega), if_pos (fun h => he h.symm)]
        rw [hf, if_pos (by omega)]
        exact ⟨⟨rfl, rfl⟩, rfl⟩
end Go.Proofs.YtocekbfnefajhaaDoor
