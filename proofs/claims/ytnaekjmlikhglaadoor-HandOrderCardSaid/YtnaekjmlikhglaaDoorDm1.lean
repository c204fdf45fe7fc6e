/- Whether a request may become a WebSocket, as list functions. -/
import Derived.Test.YtnaekjmlikhglaaDoorQm
import Derived.Test.YtnaekjmlikhglaaDoorNsMath2
import Derived.Test.YtnaekjmlikhglaaDoorNbMath4
namespace Go.Proofs.YtnaekjmlikhglaaDoor

abbrev DTx := List UInt8
abbrev DFds := List (DTx × DTx)
def guidD : DTx := [50, 53, 56, 69, 65, 70, 65, 53, 45, 69, 57, 49, 52, 45, 52, 55, 68, 65, 45, 57, 53, 67, 65, 45, 67, 53, 65, 66, 48, 68, 67, 56, 53, 66, 49, 49]
def hostD : DTx := [104, 111, 115, 116]
def upD : DTx := [117, 112, 103, 114, 97, 100, 101]
def conD : DTx := [99, 111, 110, 110, 101, 99, 116, 105, 111, 110]
def keyD : DTx := [115, 101, 99, 45, 119, 101, 98, 115, 111, 99, 107, 101, 116, 45, 107, 101, 121]
def verD : DTx := [115, 101, 99, 45, 119, 101, 98, 115, 111, 99, 107, 101, 116, 45, 118, 101, 114, 115, 105, 111, 110]
def wsD : DTx := [119, 101, 98, 115, 111, 99, 107, 101, 116]
def getD : DTx := [71, 69, 84]
def v13D : DTx := [49, 51]
/-- The accept of a key. -/
def accF (k : DTx) : DTx := bb.enc (sa.shaL (k ++ guidD))
/-- The values of the fields of a name. -/
def manyF (fs : DFds) (n : DTx) : List DTx := (fs.filter fun f => alikeF f.1 n).map (·.2)
def hasAny (l : List DTx) (w : DTx) : Bool := l.any fun v => hasF v w
def ok16 (k : DTx) : Bool := match bb.dec k with | some t => decide (t.length = 16) | none => false
structure DRq where
  m : DTx
  v : Int
  fs : DFds
/-- Does it ask rightly, but for its version's value? -/
def askF (m : DTx) (v : Int) (fs : DFds) : Bool :=
  (m == getD) && (v == 11) && decide ((manyF fs hostD).length = 1) && hasAny (manyF fs upD) wsD && hasAny (manyF fs conD) upD && decide ((manyF fs keyD).length = 1) && decide ((manyF fs verD).length = 1) && ok16 ((manyF fs keyD).headD [])
def checkF (m : DTx) (v : Int) (fs : DFds) : DTx × Nat :=
  if askF m v fs = true then (if (manyF fs verD).headD [] = v13D then (accF ((manyF fs keyD).headD []), 101) else ([], 426)) else ([], 400)
def replyF (x : DTx × Nat) : DFds × DTx :=
  if x.2 = 101 then ([([85, 112, 103, 114, 97, 100, 101], [119, 101, 98, 115, 111, 99, 107, 101, 116]), ([67, 111, 110, 110, 101, 99, 116, 105, 111, 110], [85, 112, 103, 114, 97, 100, 101]), ([83, 101, 99, 45, 87, 101, 98, 83, 111, 99, 107, 101, 116, 45, 65, 99, 99, 101, 112, 116], x.1)], []) else if x.2 = 426 then ([([83, 101, 99, 45, 87, 101, 98, 83, 111, 99, 107, 101, 116, 45, 86, 101, 114, 115, 105, 111, 110], [49, 51])], [98, 97, 100, 32, 118, 101, 114, 115, 105, 111, 110]) else ([], [98, 97, 100, 32, 104, 97, 110, 100, 115, 104, 97, 107, 101])
theorem many_nil (n : DTx) : manyF [] n = [] := rfl
theorem many_cons (f : DTx × DTx) (fs : DFds) (n : DTx) : manyF (f :: fs) n = (if alikeF f.1 n = true then [f.2] else []) ++ manyF fs n := by
  unfold manyF
  rw [List.filter_cons]
  split <;> rfl
theorem many_app (a b : DFds) (n : DTx) : manyF (a ++ b) n = manyF a n ++ manyF b n := by
  unfold manyF; rw [List.filter_append, List.map_append]
theorem many_len (fs : DFds) (n : DTx) : (manyF fs n).length ≤ fs.length := by
  unfold manyF; rw [List.length_map]; exact List.length_filter_le _ _
theorem many_mem {fs : DFds} {n v : DTx} (h : v ∈ manyF fs n) : ∃ f ∈ fs, f.2 = v ∧ alikeF f.1 n = true := by
  unfold manyF at h
  obtain ⟨f, hf, rfl⟩ := List.mem_map.1 h
  obtain ⟨h1, h2⟩ := List.mem_filter.1 hf
  exact ⟨f, h1, rfl, h2⟩
end Go.Proofs.YtnaekjmlikhglaaDoor
