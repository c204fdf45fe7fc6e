/- Texts of this proof, one behind the other. -/
import Derived.Test.YtnaekjmlikhglaaDoorDc
import Derived.Test.YtnaekjmlikhglaaDoorDw2
import Derived.Test.YtnaekjmlikhglaaDoorDd
import Derived.Test.YtnaekjmlikhglaaDoorRows
import Derived.Lib.LaidTab
import Derived.Lib.LaidU8
/- The landed asksUpgrade walked. (mkdw.py writes it.) -/
namespace Go.Proofs.YtnaekjmlikhglaaDoor
open Go.RowKit
attribute [local go_sem] store_one B_match B_store S_match S_store

/-- Does it ask rightly, as far as HTTP goes? -/
def upF (m : DTx) (v : Int) (fs : DFds) : Bool := (m == getD) && (v == 11) && decide ((manyF fs hostD).length = 1) && hasAny (manyF fs upD) wsD && hasAny (manyF fs conD) upD
theorem eq1I (n : Nat) : ((n : Int) == 1) = decide (n = 1) := by by_cases h : n = 1 <;> simp [h]; omega
theorem eq1N (n : Nat) : (n == 1) = decide (n = 1) := by by_cases h : n = 1 <;> simp [h]
set_option maxRecDepth 100000 in
set_option maxHeartbeats 2000000 in
theorem asks17_any (m p q : DTx) (v : Int) (V : Value) (body : DTx) (cl : Bool) (fs : DFds) (b o : Nat) (w : World) (hV : FA w V fs b o) (hs : Small17 fs) :
    Calls Tryd.prog 36 #[rqV17 m p q v V body cl] w fun e w' => e = .returned (.bool (upF m v fs)) ∧ Below w.heap.size w w' := by
  obtain ⟨W1, hW1⟩ : ∃ W, W = w.alloc (.cells (rqC17 m p q v V body cl) 24) := ⟨_, rfl⟩
  have hb1 : Below w.heap.size w W1 := by rw [hW1]; exact (Below.refl _ _).alloc (Nat.le_refl _) _
  have H1 : Hid (StD w (rqC17 m p q v V body cl) V fs b o W1) := Lib.hid ⟨by rw [hW1]; exact row_new _ _ _, hV.below hb1, hb1⟩
  have HGT : Hid (∀ (t : DTx) (W : World), t.length ≤ 100 → StD w (rqC17 m p q v V body cl) V fs b o W → Calls Tryd.prog 35 #[V, S t] W fun e w' => e = .returned (.tuple #[S ((manyF fs t).headD []), .int .i64 ((manyF fs t).length : Int)]) ∧ StD w (rqC17 m p q v V body cl) V fs b o w') := Lib.hid fun t W ht h =>
    (get13L_any V fs b o t (by omega) (by have := hs.few; omega) (fun f hf => by have := (hs.each f hf).1; omega) W h.fa).mono fun e w' ⟨h1, h2⟩ => ⟨by rw [h1, cntD_many, valD_many], h.next h2⟩
  have HPT : Hid (∀ (n t : DTx) (W : World), n.length ≤ 100 → t.length ≤ 100 → StD w (rqC17 m p q v V body cl) V fs b o W → Calls Tryd.prog 47 #[V, S n, S t] W fun e w' => e = .returned (.bool (partD fs n t)) ∧ StD w (rqC17 m p q v V body cl) V fs b o w') := Lib.hid fun n t W hn ht h =>
    (haspart_any V fs b o n t (by omega) (by omega) hs W h.fa).mono fun e w' ⟨h1, h2⟩ => ⟨h1, h.next h2⟩
  have HG := Lib.hid (HGT.out hostT W1 (by decide) H1.out)
  have HU := Lib.hid fun W => HPT.out upT wsD W (by decide) (by decide)
  have HC := Lib.hid fun W => HPT.out conT upT W (by decide) (by decide)
  obtain ⟨a1, ha1⟩ : ∃ x, x = (m == getD) := ⟨_, rfl⟩
  obtain ⟨a2, ha2⟩ : ∃ x, x = (v == 11) := ⟨_, rfl⟩
  obtain ⟨n3, hn3⟩ : ∃ x, x = (manyF fs hostD).length := ⟨_, rfl⟩
  obtain ⟨a3, ha3⟩ : ∃ x, x = decide (n3 = 1) := ⟨_, rfl⟩
  obtain ⟨a4, ha4⟩ : ∃ x, x = partD fs upT wsD := ⟨_, rfl⟩
  obtain ⟨a5, ha5⟩ : ∃ x, x = partD fs conT upT := ⟨_, rfl⟩
  obtain ⟨R, hR⟩ : ∃ x, x = upF m v fs := ⟨_, rfl⟩
  have HN : Hid (R = (a1 && a2 && a3 && a4 && a5)) := Lib.hid (by rw [hR, ha1, ha2, ha3, ha4, ha5, hn3, part_up, part_con]; rfl)
  rw [← ha4] at HU
  rw [← ha5] at HC
  rw [many_host, ← hn3] at HG
  rw [← hR]
  have eM : binOp .eql 9 (S m) (.string ⟨#[71, 69, 84]⟩) = pure (.bool a1) := by rw [ha1]; exact eql_S 9 m getD
  have gM : ∀ x y, eqGuard .eql 9 x y (S m) (.string ⟨#[71, 69, 84]⟩) = pure () := fun _ _ => rfl
  have q2 : (v == 11) = a2 := ha2.symm
  have q3 : ((n3 : Int) == 1) = a3 := by rw [ha3]; exact eq1I n3
  have q3' : (n3 == 1) = a3 := by rw [ha3]; exact eq1N n3
  obtain ⟨s3, hs3⟩ : ∃ x, x = (manyF fs hostD).headD [] := ⟨_, rfl⟩
  rw [← hs3] at HG
  have hc : ∀ W, StD w (rqC17 m p q v V body cl) V fs b o W → W.cell? ⟨w.heap.size, 0, none⟩ = some (S m) ∧ W.cell? ⟨w.heap.size, 3, none⟩ = some (.int .i64 v) ∧ W.cell? ⟨w.heap.size, 4, none⟩ = some V := fun W h => ⟨cell_of_row W _ 0 _ _ (0, 0) h.row, cell_of_row W _ 3 _ _ (0, 0) h.row, cell_of_row W _ 4 _ _ (0, 0) h.row⟩
  have HCL := Lib.hid hc
  obtain ⟨c0, c3, c4⟩ := hc W1 H1.out
  clear ha1 ha2 ha3 ha4 ha5 hn3 hR hb1 hV hs hs3 hc HGT HPT
  obtain ⟨fc, hfc⟩ : ∃ c, c = rqC17 m p q v V body cl := ⟨_, rfl⟩
  rw [← hfc] at H1 HG HU HC HCL
  unfold rqV17
  unfold rqC17 at hfc hW1 ⊢
  clear hfc
  go_enter Tryd.func36, Tryd.ntmps36
  go_wp2_with fail
  rw [← hW1]
  clear hW1 c0 c3 c4
  refine HG.out.mono ?_
  rintro e W2 ⟨rfl, h2⟩
  obtain ⟨c0, c3, c4⟩ := HCL.out W2 h2
  have H2 := Lib.hid h2
  clear h2 HG H1
  cases a1 with
  | false =>
    have HR : Hid (R = false) := Lib.hid (by rw [HN.out]; simp)
    go_wp2
    go_ret
    exact ⟨by rw [HR.out]; rfl, H2.out.below⟩
  | true =>
    cases a2 with
    | false =>
      have HR : Hid (R = false) := Lib.hid (by rw [HN.out]; simp)
      go_wp2
      go_ret
      exact ⟨by rw [HR.out]; rfl, H2.out.below⟩
    | true =>
      cases a3 with
      | false =>
        have HR : Hid (R = false) := Lib.hid (by rw [HN.out]; simp)
        go_wp2
        go_ret
        exact ⟨by rw [HR.out]; rfl, H2.out.below⟩
      | true =>
        go_wp2_with fail
        refine (HU.out W2 H2.out).mono ?_
        rintro e W3 ⟨rfl, h3⟩
        obtain ⟨-, -, d4⟩ := HCL.out W3 h3
        have H3 := Lib.hid h3
        clear h3 HU c0 c3 c4 H2
        cases a4 with
        | false =>
          have HR : Hid (R = false) := Lib.hid (by rw [HN.out]; simp)
          go_wp2
          go_ret
          exact ⟨by rw [HR.out]; rfl, H3.out.below⟩
        | true =>
          go_wp2_with fail
          refine (HC.out W3 H3.out).mono ?_
          rintro e W4 ⟨rfl, h4⟩
          have HR : Hid (R = a5) := Lib.hid (by rw [HN.out]; simp)
          have H4 := Lib.hid h4
          clear h4 HC
          go_wp2
          go_ret
          exact ⟨by rw [HR.out]; rfl, H4.out.below⟩
end Go.Proofs.YtnaekjmlikhglaaDoor
/- The landed Check walked. (mkdw.py writes it.) -/
namespace Go.Proofs.YtnaekjmlikhglaaDoor
open Go.RowKit
attribute [local go_sem] store_one B_match B_store S_match S_store

theorem ask_up (m : DTx) (v : Int) (fs : DFds) : askF m v fs = (upF m v fs && decide ((manyF fs keyD).length = 1) && ok16 ((manyF fs keyD).headD []) && decide ((manyF fs verD).length = 1)) := by
  unfold askF upF
  cases (m == getD) <;> cases (v == 11) <;> cases decide ((manyF fs hostD).length = 1) <;> cases hasAny (manyF fs upD) wsD <;> cases hasAny (manyF fs conD) upD <;> cases decide ((manyF fs keyD).length = 1) <;> cases decide ((manyF fs verD).length = 1) <;> cases ok16 ((manyF fs keyD).headD []) <;> rfl
theorem head_len {fs : DFds} (hs : Small17 fs) (n : DTx) : ((manyF fs n).headD []).length ≤ 200 := by
  cases h : manyF fs n with
  | nil => exact Nat.zero_le _
  | cons x l =>
    obtain ⟨f, hf, rfl, _⟩ := many_mem (h ▸ List.mem_cons_self .. : x ∈ manyF fs n)
    exact (hs.each f hf).2
set_option maxRecDepth 100000 in
set_option maxHeartbeats 4000000 in
theorem check17_any (m p q : DTx) (v : Int) (V : Value) (body : DTx) (cl : Bool) (fs : DFds) (b o : Nat) (w : World) (hV : FA w V fs b o) (hs : Small17 fs) (hst : sa.Start w) :
    Calls Tryd.prog 11 #[rqV17 m p q v V body cl] w fun e w' => e = .returned (.tuple #[S (checkF m v fs).1, .int .i64 ((checkF m v fs).2 : Int)]) ∧ Below w.heap.size w w' := by
  obtain ⟨W1, hW1⟩ : ∃ W, W = w.alloc (.cells (rqC17 m p q v V body cl) 24) := ⟨_, rfl⟩
  have hb1 : Below w.heap.size w W1 := by rw [hW1]; exact (Below.refl _ _).alloc (Nat.le_refl _) _
  have H1 : Hid (StD w (rqC17 m p q v V body cl) V fs b o W1) := Lib.hid ⟨by rw [hW1]; exact row_new _ _ _, hV.below hb1, hb1⟩
  have HGT : Hid (∀ (t : DTx) (W : World), t.length ≤ 100 → StD w (rqC17 m p q v V body cl) V fs b o W → Calls Tryd.prog 35 #[V, S t] W fun e w' => e = .returned (.tuple #[S ((manyF fs t).headD []), .int .i64 ((manyF fs t).length : Int)]) ∧ StD w (rqC17 m p q v V body cl) V fs b o w') := Lib.hid fun t W ht h =>
    (get13L_any V fs b o t (by omega) (by have := hs.few; omega) (fun f hf => by have := (hs.each f hf).1; omega) W h.fa).mono fun e w' ⟨h1, h2⟩ => ⟨by rw [h1, cntD_many, valD_many], h.next h2⟩
  have HUP : Hid (∀ W, StD w (rqC17 m p q v V body cl) V fs b o W → Calls Tryd.prog 36 #[rqV17 m p q v V body cl] W fun e w' => e = .returned (.bool (upF m v fs)) ∧ StD w (rqC17 m p q v V body cl) V fs b o w') := Lib.hid fun W h =>
    (asks17_any m p q v V body cl fs b o W h.fa hs).mono fun e w' ⟨h1, h2⟩ => ⟨h1, h.next h2⟩
  obtain ⟨ky, hky⟩ : ∃ x, x = (manyF fs keyD).headD [] := ⟨_, rfl⟩
  obtain ⟨vr, hvr⟩ : ∃ x, x = (manyF fs verD).headD [] := ⟨_, rfl⟩
  have hkl : ky.length ≤ 200 := by rw [hky]; exact head_len hs keyD
  have HIK : Hid (∀ W, StD w (rqC17 m p q v V body cl) V fs b o W → Calls Tryd.prog 37 #[S ky] W fun e w' => e = .returned (.bool (ok16 ky)) ∧ StD w (rqC17 m p q v V body cl) V fs b o w') := Lib.hid fun W h =>
    (iskey_any ky (by omega) W).mono fun e w' ⟨h1, h2⟩ => ⟨h1, h.next h2⟩
  have HAC : Hid (∀ W, StD w (rqC17 m p q v V body cl) V fs b o W → Calls Tryd.prog 16 #[S ky] W fun e w' => e = .returned (S (accF ky)) ∧ StD w (rqC17 m p q v V body cl) V fs b o w') := Lib.hid fun W h =>
    (accept17_any ky (by omega) W (hst.below h.below hst.lt)).mono fun e w' ⟨h1, h2⟩ => ⟨h1, h.next h2⟩
  have HK := Lib.hid (HGT.out keyT W1 (by decide) H1.out)
  have HVR := Lib.hid fun W => HGT.out verT W (by decide)
  obtain ⟨nk, hnk⟩ : ∃ x, x = (manyF fs keyD).length := ⟨_, rfl⟩
  obtain ⟨nv, hnv⟩ : ∃ x, x = (manyF fs verD).length := ⟨_, rfl⟩
  obtain ⟨a1, ha1⟩ : ∃ x, x = upF m v fs := ⟨_, rfl⟩
  obtain ⟨a2, ha2⟩ : ∃ x, x = decide (nk = 1) := ⟨_, rfl⟩
  obtain ⟨a3, ha3⟩ : ∃ x, x = ok16 ky := ⟨_, rfl⟩
  obtain ⟨a4, ha4⟩ : ∃ x, x = decide (nv = 1) := ⟨_, rfl⟩
  have hask : askF m v fs = (a1 && a2 && a3 && a4) := by rw [ask_up, ha1, ha2, ha3, ha4, hnk, hnv, hky]
  have HN : Hid ((a1 && a2 && a3 && a4) = false → checkF m v fs = ([], 400)) := Lib.hid fun h => check_no (by rw [hask]; exact h)
  have HY : Hid ((a1 && a2 && a3 && a4) = true → checkF m v fs = if vr = v13D then (accF ky, 101) else ([], 426)) := Lib.hid fun h => by unfold checkF; rw [if_pos (by rw [hask]; exact h), hky, hvr]
  rw [many_key, ← hnk, ← hky] at HK
  rw [many_ver, ← hnv, ← hvr] at HVR
  rw [← ha1] at HUP
  rw [← ha3] at HIK
  have q2 : ((nk : Int) != 1) = !a2 := by rw [ha2]; exact ne1I nk
  have q2' : (nk != 1) = !a2 := by rw [ha2]; exact ne1N nk
  have q4 : ((nv : Int) != 1) = !a4 := by rw [ha4]; exact ne1I nv
  have q4' : (nv != 1) = !a4 := by rw [ha4]; exact ne1N nv
  obtain ⟨X, hX⟩ : ∃ x, x = checkF m v fs := ⟨_, rfl⟩
  obtain ⟨ak, hak⟩ : ∃ x, x = accF ky := ⟨_, rfl⟩
  rw [← hX] at HN HY ⊢
  rw [← hak] at HY HAC
  have hc : ∀ W, StD w (rqC17 m p q v V body cl) V fs b o W → W.cell? ⟨w.heap.size, 0, none⟩ = some (S m) ∧ W.cell? ⟨w.heap.size, 1, none⟩ = some (S p) ∧ W.cell? ⟨w.heap.size, 2, none⟩ = some (S q) ∧ W.cell? ⟨w.heap.size, 3, none⟩ = some (.int .i64 v) ∧ W.cell? ⟨w.heap.size, 4, none⟩ = some V ∧ W.cell? ⟨w.heap.size, 5, none⟩ = some (S body) ∧ W.cell? ⟨w.heap.size, 6, none⟩ = some (.bool cl) := fun W h => ⟨cell_of_row W _ 0 _ _ (0, 0) h.row, cell_of_row W _ 1 _ _ (0, 0) h.row, cell_of_row W _ 2 _ _ (0, 0) h.row, cell_of_row W _ 3 _ _ (0, 0) h.row, cell_of_row W _ 4 _ _ (0, 0) h.row, cell_of_row W _ 5 _ _ (0, 0) h.row, cell_of_row W _ 6 _ _ (0, 0) h.row⟩
  have HCL := Lib.hid hc
  obtain ⟨-, -, -, -, c4, -, -⟩ := hc W1 H1.out
  clear hask ha1 ha2 ha3 ha4 hnk hnv hX hak hky hvr hkl hb1 hV hs hc HGT hst
  obtain ⟨fc, hfc⟩ : ∃ c, c = rqC17 m p q v V body cl := ⟨_, rfl⟩
  rw [← hfc] at H1 HK HVR HUP HIK HAC HCL
  unfold rqV17 at HUP ⊢
  unfold rqC17 at hfc hW1 HUP ⊢
  clear hfc
  go_enter Tryd.func11, Tryd.ntmps11
  go_wp2_with fail
  rw [← hW1]
  clear hW1 c4
  refine HK.out.mono ?_
  rintro e W2 ⟨rfl, h2⟩
  obtain ⟨-, -, -, -, c4, -, -⟩ := HCL.out W2 h2
  have H2 := Lib.hid h2
  clear h2 HK H1
  go_wp2_with fail
  clear c4
  refine (HVR.out W2 H2.out).mono ?_
  rintro e W3 ⟨rfl, h3⟩
  obtain ⟨c0, c1, c2, c3, c4, c5, c6⟩ := HCL.out W3 h3
  have H3 := Lib.hid h3
  clear h3 HVR H2
  go_wp2_with fail
  clear c0 c1 c2 c3 c4 c5 c6
  refine (HUP.out W3 H3.out).mono ?_
  rintro e W4 ⟨rfl, h4⟩
  have H4 := Lib.hid h4
  clear h4 HUP H3 HCL
  cases a1 with
  | false =>
    have HR : Hid (X = ([], 400)) := Lib.hid (HN.out (by simp))
    go_wp2
    go_ret2
    exact ⟨by rw [HR.out]; rfl, H4.out.below⟩
  | true =>
    cases a2 with
    | false =>
      have HR : Hid (X = ([], 400)) := Lib.hid (HN.out (by simp))
      go_wp2
      go_ret2
      exact ⟨by rw [HR.out]; rfl, H4.out.below⟩
    | true =>
      go_wp2_with fail
      refine (HIK.out W4 H4.out).mono ?_
      rintro e W5 ⟨rfl, h5⟩
      have H5 := Lib.hid h5
      clear h5 HIK H4
      cases a3 with
      | false =>
        have HR : Hid (X = ([], 400)) := Lib.hid (HN.out (by simp))
        go_wp2
        go_ret2
        exact ⟨by rw [HR.out]; rfl, H5.out.below⟩
      | true =>
        cases a4 with
        | false =>
          have HR : Hid (X = ([], 400)) := Lib.hid (HN.out (by simp))
          go_wp2
          go_ret2
          exact ⟨by rw [HR.out]; rfl, H5.out.below⟩
        | true =>
          by_cases h13 : vr = v13D
          · have HR : Hid (X = (ak, 101)) := Lib.hid (by rw [HY.out rfl, if_pos h13])
            have e9 : binOp .neq 9 (S vr) (.string ⟨#[49, 51]⟩) = pure (.bool false) := by rw [show binOp .neq 9 (S vr) (.string ⟨#[49, 51]⟩) = pure (.bool (!(vr == v13D))) from neql_S 9 vr v13D, h13]; rfl
            have g9 : ∀ x y, eqGuard .neq 9 x y (S vr) (.string ⟨#[49, 51]⟩) = pure () := fun x y => nguard_S 9 x y vr v13D
            clear h13
            go_wp2_with fail
            refine (HAC.out W5 H5.out).mono ?_
            rintro e W6 ⟨rfl, h6⟩
            have H6 := Lib.hid h6
            clear h6 HAC H5
            go_wp2
            go_ret2
            exact ⟨by rw [HR.out]; rfl, H6.out.below⟩
          · have HR : Hid (X = ([], 426)) := Lib.hid (by rw [HY.out rfl, if_neg h13])
            have e9 : binOp .neq 9 (S vr) (.string ⟨#[49, 51]⟩) = pure (.bool true) := by rw [show binOp .neq 9 (S vr) (.string ⟨#[49, 51]⟩) = pure (.bool (!(vr == v13D))) from neql_S 9 vr v13D, show (vr == v13D) = false from beq_eq_false_iff_ne.2 h13]; rfl
            have g9 : ∀ x y, eqGuard .neq 9 x y (S vr) (.string ⟨#[49, 51]⟩) = pure () := fun x y => nguard_S 9 x y vr v13D
            clear h13
            go_wp2
            go_ret2
            exact ⟨by rw [HR.out]; rfl, H5.out.below⟩
end Go.Proofs.YtnaekjmlikhglaaDoor
/- The landed Answer walked. (mkdw.py writes it.) -/
namespace Go.Proofs.YtnaekjmlikhglaaDoor
open Go.RowKit
attribute [local go_sem] store_one B_match B_store S_match S_store

theorem setc_size (W : World) (x : Addr) (v : Value) : (W.setCell x v).heap.size = W.heap.size := by simp [World.setCell]
theorem Row.setc {W : World} {k g : Nat} {cs : Array Value} {t : TypeId} (h : Row W k cs t) (hn : k ≠ g) (i : Nat) (v : Value) : Row (W.setCell ⟨g, i, none⟩ v) k cs t := (heap_setCell_other _ _ _ _ (by exact hn)).trans h
set_option maxRecDepth 100000 in
set_option maxHeartbeats 2000000 in
theorem answer17_any (m p q : DTx) (v : Int) (V : Value) (body : DTx) (cl : Bool) (fs : DFds) (b o : Nat) (w : World) (hV : FA w V fs b o) (hs : Small17 fs) (hst : sa.Start w) :
    Calls Tryd.prog 13 #[rqV17 m p q v V body cl] w fun e w' => ∃ V', e = .returned (.tuple #[rpV17 ((checkF m v fs).2 : Int) V' (replyF (checkF m v fs)).2, .bool (decide ((checkF m v fs).2 = 101))]) ∧
      w'.ownsRow w.heap.size 37 2 V' (replyF (checkF m v fs)).1.length (fcells (replyF (checkF m v fs)).1) ∧ Below w.heap.size w w' := by
  obtain ⟨W1, hW1⟩ : ∃ W, W = (w.alloc (.cells (rqC17 m p q v V body cl) 24)).alloc (.cells #[.int .i64 0, .slice none 0 0, .string ⟨#[]⟩] 30) := ⟨_, rfl⟩
  have hb1 : Below w.heap.size w W1 := by rw [hW1]; exact ((Below.refl _ _).alloc (Nat.le_refl _) _).alloc (by rw [alloc_size]; omega) _
  have hC := check17_any m p q v V body cl fs b o W1 (hV.below hb1) hs (hst.below hb1 hst.lt)
  have hr1 : Row W1 (w.heap.size + 1) #[.int .i64 0, .slice none 0 0, .string ⟨#[]⟩] 30 := by
    have := row_new (w.alloc (.cells (rqC17 m p q v V body cl) 24)) #[.int .i64 0, .slice none 0 0, .string ⟨#[]⟩] 30
    rw [alloc_size] at this
    rw [hW1]; exact this
  have H1 := Lib.hid (And.intro hr1 hb1)
  have hcs := check_cases m v fs
  obtain ⟨x, hx⟩ : ∃ x, x = checkF m v fs := ⟨_, rfl⟩
  rw [← hx] at hC hcs ⊢
  clear hx hb1 hr1 hV hs hst
  unfold rqV17 at hC ⊢
  unfold rqC17 at hC hW1 ⊢
  rw [hW1] at hC
  rcases hcs with ⟨a, rfl⟩ | rfl | rfl
  · have HC := Lib.hid hC
    clear hC
    go_enter Tryd.func13, Tryd.ntmps13
    go_wp2_with fail
    refine HC.out.mono ?_
    rintro e W2 ⟨rfl, hB⟩
    rw [← hW1] at hB
    have h0 : Row W2 (w.heap.size + 1) #[.int .i64 0, .slice none 0 0, .string ⟨#[]⟩] 30 := H1.out.1.below hB H1.out.1.lt
    have b0 := H1.out.2.trans (hB.mono H1.out.2.size)
    clear HC hB H1 hW1
    have HG := Lib.hid h0.lt
    have hgl : w.heap.size ≤ w.heap.size + 1 := by omega
    have h1 : Row (W2.setCell ⟨w.heap.size + 1, 0, none⟩ (.int .i64 101)) (w.heap.size + 1) #[.int .i64 101, .slice none 0 0, .string ⟨#[]⟩] 30 := h0.set 0 _
    have b1 : Below w.heap.size w (W2.setCell ⟨w.heap.size + 1, 0, none⟩ (.int .i64 101)) := b0.setCell (p := ⟨w.heap.size + 1, 0, none⟩) hgl _
    have h2 : Row ((W2.setCell ⟨w.heap.size + 1, 0, none⟩ (.int .i64 101)).alloc (.cells #[.string ⟨#[85, 112, 103, 114, 97, 100, 101]⟩, .string ⟨#[119, 101, 98, 115, 111, 99, 107, 101, 116]⟩, .string ⟨#[67, 111, 110, 110, 101, 99, 116, 105, 111, 110]⟩, .string ⟨#[85, 112, 103, 114, 97, 100, 101]⟩, .string ⟨#[83, 101, 99, 45, 87, 101, 98, 83, 111, 99, 107, 101, 116, 45, 65, 99, 99, 101, 112, 116]⟩, S a] 37)) (w.heap.size + 1) #[.int .i64 101, .slice none 0 0, .string ⟨#[]⟩] 30 := h1.alloc _
    have b2 : Below w.heap.size w ((W2.setCell ⟨w.heap.size + 1, 0, none⟩ (.int .i64 101)).alloc (.cells #[.string ⟨#[85, 112, 103, 114, 97, 100, 101]⟩, .string ⟨#[119, 101, 98, 115, 111, 99, 107, 101, 116]⟩, .string ⟨#[67, 111, 110, 110, 101, 99, 116, 105, 111, 110]⟩, .string ⟨#[85, 112, 103, 114, 97, 100, 101]⟩, .string ⟨#[83, 101, 99, 45, 87, 101, 98, 83, 111, 99, 107, 101, 116, 45, 65, 99, 99, 101, 112, 116]⟩, S a] 37)) := b1.alloc b1.size _
    have h3 : Row (((W2.setCell ⟨w.heap.size + 1, 0, none⟩ (.int .i64 101)).alloc (.cells #[.string ⟨#[85, 112, 103, 114, 97, 100, 101]⟩, .string ⟨#[119, 101, 98, 115, 111, 99, 107, 101, 116]⟩, .string ⟨#[67, 111, 110, 110, 101, 99, 116, 105, 111, 110]⟩, .string ⟨#[85, 112, 103, 114, 97, 100, 101]⟩, .string ⟨#[83, 101, 99, 45, 87, 101, 98, 83, 111, 99, 107, 101, 116, 45, 65, 99, 99, 101, 112, 116]⟩, S a] 37)).setCell ⟨w.heap.size + 1, 1, none⟩ (.slice (some ⟨W2.heap.size, 0, none⟩) 3 3)) (w.heap.size + 1) #[.int .i64 101, .slice (some ⟨W2.heap.size, 0, none⟩) 3 3, .string ⟨#[]⟩] 30 := h2.set 1 _
    have b3 : Below w.heap.size w (((W2.setCell ⟨w.heap.size + 1, 0, none⟩ (.int .i64 101)).alloc (.cells #[.string ⟨#[85, 112, 103, 114, 97, 100, 101]⟩, .string ⟨#[119, 101, 98, 115, 111, 99, 107, 101, 116]⟩, .string ⟨#[67, 111, 110, 110, 101, 99, 116, 105, 111, 110]⟩, .string ⟨#[85, 112, 103, 114, 97, 100, 101]⟩, .string ⟨#[83, 101, 99, 45, 87, 101, 98, 83, 111, 99, 107, 101, 116, 45, 65, 99, 99, 101, 112, 116]⟩, S a] 37)).setCell ⟨w.heap.size + 1, 1, none⟩ (.slice (some ⟨W2.heap.size, 0, none⟩) 3 3)) := b2.setCell (p := ⟨w.heap.size + 1, 1, none⟩) hgl _
    obtain ⟨W3, hW3⟩ : ∃ W, W = ((W2.setCell ⟨w.heap.size + 1, 0, none⟩ (.int .i64 101)).alloc (.cells #[.string ⟨#[85, 112, 103, 114, 97, 100, 101]⟩, .string ⟨#[119, 101, 98, 115, 111, 99, 107, 101, 116]⟩, .string ⟨#[67, 111, 110, 110, 101, 99, 116, 105, 111, 110]⟩, .string ⟨#[85, 112, 103, 114, 97, 100, 101]⟩, .string ⟨#[83, 101, 99, 45, 87, 101, 98, 83, 111, 99, 107, 101, 116, 45, 65, 99, 99, 101, 112, 116]⟩, S a] 37)).setCell ⟨w.heap.size + 1, 1, none⟩ (.slice (some ⟨W2.heap.size, 0, none⟩) 3 3) := ⟨_, rfl⟩
    rw [← hW3] at h3 b3
    have HF := Lib.hid (And.intro h3 b3)
    have HO : Hid (W3.ownsRow w.heap.size 37 2 (.slice (some ⟨W2.heap.size, 0, none⟩) 3 3) 3 (fcells (replyF (a, 101)).1)) := Lib.hid (own_lit (g := W2.heap.size) (fs := (replyF (a, 101)).1) (cs := #[.string ⟨#[85, 112, 103, 114, 97, 100, 101]⟩, .string ⟨#[119, 101, 98, 115, 111, 99, 107, 101, 116]⟩, .string ⟨#[67, 111, 110, 110, 101, 99, 116, 105, 111, 110]⟩, .string ⟨#[85, 112, 103, 114, 97, 100, 101]⟩, .string ⟨#[83, 101, 99, 45, 87, 101, 98, 83, 111, 99, 107, 101, 116, 45, 65, 99, 99, 101, 112, 116]⟩, S a]) (by
      rw [hW3]
      have hne : W2.heap.size ≠ w.heap.size + 1 := by have := HG.out; omega
      have hn : Row ((W2.setCell ⟨w.heap.size + 1, 0, none⟩ (.int .i64 101)).alloc (.cells #[.string ⟨#[85, 112, 103, 114, 97, 100, 101]⟩, .string ⟨#[119, 101, 98, 115, 111, 99, 107, 101, 116]⟩, .string ⟨#[67, 111, 110, 110, 101, 99, 116, 105, 111, 110]⟩, .string ⟨#[85, 112, 103, 114, 97, 100, 101]⟩, .string ⟨#[83, 101, 99, 45, 87, 101, 98, 83, 111, 99, 107, 101, 116, 45, 65, 99, 99, 101, 112, 116]⟩, S a] 37)) W2.heap.size #[.string ⟨#[85, 112, 103, 114, 97, 100, 101]⟩, .string ⟨#[119, 101, 98, 115, 111, 99, 107, 101, 116]⟩, .string ⟨#[67, 111, 110, 110, 101, 99, 116, 105, 111, 110]⟩, .string ⟨#[85, 112, 103, 114, 97, 100, 101]⟩, .string ⟨#[83, 101, 99, 45, 87, 101, 98, 83, 111, 99, 107, 101, 116, 45, 65, 99, 99, 101, 112, 116]⟩, S a] 37 := by
        have := row_new (W2.setCell ⟨w.heap.size + 1, 0, none⟩ (.int .i64 101)) #[.string ⟨#[85, 112, 103, 114, 97, 100, 101]⟩, .string ⟨#[119, 101, 98, 115, 111, 99, 107, 101, 116]⟩, .string ⟨#[67, 111, 110, 110, 101, 99, 116, 105, 111, 110]⟩, .string ⟨#[85, 112, 103, 114, 97, 100, 101]⟩, .string ⟨#[83, 101, 99, 45, 87, 101, 98, 83, 111, 99, 107, 101, 116, 45, 65, 99, 99, 101, 112, 116]⟩, S a] 37
        rwa [setc_size] at this
      exact hn.setc hne _ _) (by have := b0.size; omega) rfl (by show (3 : Nat) ≤ 1000; decide))
    have z0 : (W2).cell? ⟨w.heap.size + 1, 0, none⟩ = some (.int .i64 0) ∧ (W2).cell? ⟨w.heap.size + 1, 1, none⟩ = some (.slice none 0 0) ∧ (W2).cell? ⟨w.heap.size + 1, 2, none⟩ = some (.string ⟨#[]⟩) := ⟨cell_of_row _ _ 0 _ _ (0, 0) h0, cell_of_row _ _ 1 _ _ (0, 0) h0, cell_of_row _ _ 2 _ _ (0, 0) h0⟩
    obtain ⟨z0a, z0b, z0c⟩ := z0
    have f0a := h0.frozen 0
    have f0b := h0.frozen 1
    have f0c := h0.frozen 2
    have z1 : (W2.setCell ⟨w.heap.size + 1, 0, none⟩ (.int .i64 101)).cell? ⟨w.heap.size + 1, 0, none⟩ = some (.int .i64 101) ∧ (W2.setCell ⟨w.heap.size + 1, 0, none⟩ (.int .i64 101)).cell? ⟨w.heap.size + 1, 1, none⟩ = some (.slice none 0 0) ∧ (W2.setCell ⟨w.heap.size + 1, 0, none⟩ (.int .i64 101)).cell? ⟨w.heap.size + 1, 2, none⟩ = some (.string ⟨#[]⟩) := ⟨cell_of_row _ _ 0 _ _ (0, 0) h1, cell_of_row _ _ 1 _ _ (0, 0) h1, cell_of_row _ _ 2 _ _ (0, 0) h1⟩
    obtain ⟨z1a, z1b, z1c⟩ := z1
    have f1a := h1.frozen 0
    have f1b := h1.frozen 1
    have f1c := h1.frozen 2
    have z2 : ((W2.setCell ⟨w.heap.size + 1, 0, none⟩ (.int .i64 101)).alloc (.cells #[.string ⟨#[85, 112, 103, 114, 97, 100, 101]⟩, .string ⟨#[119, 101, 98, 115, 111, 99, 107, 101, 116]⟩, .string ⟨#[67, 111, 110, 110, 101, 99, 116, 105, 111, 110]⟩, .string ⟨#[85, 112, 103, 114, 97, 100, 101]⟩, .string ⟨#[83, 101, 99, 45, 87, 101, 98, 83, 111, 99, 107, 101, 116, 45, 65, 99, 99, 101, 112, 116]⟩, S a] 37)).cell? ⟨w.heap.size + 1, 0, none⟩ = some (.int .i64 101) ∧ ((W2.setCell ⟨w.heap.size + 1, 0, none⟩ (.int .i64 101)).alloc (.cells #[.string ⟨#[85, 112, 103, 114, 97, 100, 101]⟩, .string ⟨#[119, 101, 98, 115, 111, 99, 107, 101, 116]⟩, .string ⟨#[67, 111, 110, 110, 101, 99, 116, 105, 111, 110]⟩, .string ⟨#[85, 112, 103, 114, 97, 100, 101]⟩, .string ⟨#[83, 101, 99, 45, 87, 101, 98, 83, 111, 99, 107, 101, 116, 45, 65, 99, 99, 101, 112, 116]⟩, S a] 37)).cell? ⟨w.heap.size + 1, 1, none⟩ = some (.slice none 0 0) ∧ ((W2.setCell ⟨w.heap.size + 1, 0, none⟩ (.int .i64 101)).alloc (.cells #[.string ⟨#[85, 112, 103, 114, 97, 100, 101]⟩, .string ⟨#[119, 101, 98, 115, 111, 99, 107, 101, 116]⟩, .string ⟨#[67, 111, 110, 110, 101, 99, 116, 105, 111, 110]⟩, .string ⟨#[85, 112, 103, 114, 97, 100, 101]⟩, .string ⟨#[83, 101, 99, 45, 87, 101, 98, 83, 111, 99, 107, 101, 116, 45, 65, 99, 99, 101, 112, 116]⟩, S a] 37)).cell? ⟨w.heap.size + 1, 2, none⟩ = some (.string ⟨#[]⟩) := ⟨cell_of_row _ _ 0 _ _ (0, 0) h2, cell_of_row _ _ 1 _ _ (0, 0) h2, cell_of_row _ _ 2 _ _ (0, 0) h2⟩
    obtain ⟨z2a, z2b, z2c⟩ := z2
    have f2a := h2.frozen 0
    have f2b := h2.frozen 1
    have f2c := h2.frozen 2
    have z3 : (W3).cell? ⟨w.heap.size + 1, 0, none⟩ = some (.int .i64 101) ∧ (W3).cell? ⟨w.heap.size + 1, 1, none⟩ = some (.slice (some ⟨W2.heap.size, 0, none⟩) 3 3) ∧ (W3).cell? ⟨w.heap.size + 1, 2, none⟩ = some (.string ⟨#[]⟩) := ⟨cell_of_row _ _ 0 _ _ (0, 0) h3, cell_of_row _ _ 1 _ _ (0, 0) h3, cell_of_row _ _ 2 _ _ (0, 0) h3⟩
    obtain ⟨z3a, z3b, z3c⟩ := z3
    have f3a := h3.frozen 0
    have f3b := h3.frozen 1
    have f3c := h3.frozen 2
    rw [hW3] at z3a z3b z3c f3a f3b f3c
    clear h0 b0 h1 b1 h2 b2 h3 b3 hgl
    go_wp2
    rw [← hW3]
    refine bodyPost_ret (results_row_tmp rfl _ _ (w.heap.size + 1) 30 #[.int .i64 101, .slice (some ⟨W2.heap.size, 0, none⟩) 3 3, .string ⟨#[]⟩] (0, 0) _ rfl (put3_row HF.out.1 (.int .i64 101) (.slice (some ⟨W2.heap.size, 0, none⟩) 3 3) (.string ⟨#[]⟩)) Tryd.underlying30 rfl infoRp) rfl ?_
    exact ⟨.slice (some ⟨W2.heap.size, 0, none⟩) 3 3, rfl, own_same HO.out (fun j hj => by obtain rfl := Option.some.inj hj; exact put3_other (by show W2.heap.size ≠ w.heap.size + 1; have := HG.out; omega) _ _ _), put3_below HF.out.2 (by omega) _ _ _⟩
  · have HC := Lib.hid hC
    clear hC
    go_enter Tryd.func13, Tryd.ntmps13
    go_wp2_with fail
    refine HC.out.mono ?_
    rintro e W2 ⟨rfl, hB⟩
    rw [← hW1] at hB
    have h0 : Row W2 (w.heap.size + 1) #[.int .i64 0, .slice none 0 0, .string ⟨#[]⟩] 30 := H1.out.1.below hB H1.out.1.lt
    have b0 := H1.out.2.trans (hB.mono H1.out.2.size)
    clear HC hB H1 hW1
    have HG := Lib.hid h0.lt
    have hgl : w.heap.size ≤ w.heap.size + 1 := by omega
    have h1 : Row (W2.setCell ⟨w.heap.size + 1, 0, none⟩ (.int .i64 426)) (w.heap.size + 1) #[.int .i64 426, .slice none 0 0, .string ⟨#[]⟩] 30 := h0.set 0 _
    have b1 : Below w.heap.size w (W2.setCell ⟨w.heap.size + 1, 0, none⟩ (.int .i64 426)) := b0.setCell (p := ⟨w.heap.size + 1, 0, none⟩) hgl _
    have h2 : Row ((W2.setCell ⟨w.heap.size + 1, 0, none⟩ (.int .i64 426)).alloc (.cells #[.string ⟨#[83, 101, 99, 45, 87, 101, 98, 83, 111, 99, 107, 101, 116, 45, 86, 101, 114, 115, 105, 111, 110]⟩, .string ⟨#[49, 51]⟩] 37)) (w.heap.size + 1) #[.int .i64 426, .slice none 0 0, .string ⟨#[]⟩] 30 := h1.alloc _
    have b2 : Below w.heap.size w ((W2.setCell ⟨w.heap.size + 1, 0, none⟩ (.int .i64 426)).alloc (.cells #[.string ⟨#[83, 101, 99, 45, 87, 101, 98, 83, 111, 99, 107, 101, 116, 45, 86, 101, 114, 115, 105, 111, 110]⟩, .string ⟨#[49, 51]⟩] 37)) := b1.alloc b1.size _
    have h3 : Row (((W2.setCell ⟨w.heap.size + 1, 0, none⟩ (.int .i64 426)).alloc (.cells #[.string ⟨#[83, 101, 99, 45, 87, 101, 98, 83, 111, 99, 107, 101, 116, 45, 86, 101, 114, 115, 105, 111, 110]⟩, .string ⟨#[49, 51]⟩] 37)).setCell ⟨w.heap.size + 1, 1, none⟩ (.slice (some ⟨W2.heap.size, 0, none⟩) 1 1)) (w.heap.size + 1) #[.int .i64 426, .slice (some ⟨W2.heap.size, 0, none⟩) 1 1, .string ⟨#[]⟩] 30 := h2.set 1 _
    have b3 : Below w.heap.size w (((W2.setCell ⟨w.heap.size + 1, 0, none⟩ (.int .i64 426)).alloc (.cells #[.string ⟨#[83, 101, 99, 45, 87, 101, 98, 83, 111, 99, 107, 101, 116, 45, 86, 101, 114, 115, 105, 111, 110]⟩, .string ⟨#[49, 51]⟩] 37)).setCell ⟨w.heap.size + 1, 1, none⟩ (.slice (some ⟨W2.heap.size, 0, none⟩) 1 1)) := b2.setCell (p := ⟨w.heap.size + 1, 1, none⟩) hgl _
    have h4 : Row ((((W2.setCell ⟨w.heap.size + 1, 0, none⟩ (.int .i64 426)).alloc (.cells #[.string ⟨#[83, 101, 99, 45, 87, 101, 98, 83, 111, 99, 107, 101, 116, 45, 86, 101, 114, 115, 105, 111, 110]⟩, .string ⟨#[49, 51]⟩] 37)).setCell ⟨w.heap.size + 1, 1, none⟩ (.slice (some ⟨W2.heap.size, 0, none⟩) 1 1)).setCell ⟨w.heap.size + 1, 2, none⟩ (.string ⟨#[98, 97, 100, 32, 118, 101, 114, 115, 105, 111, 110]⟩)) (w.heap.size + 1) #[.int .i64 426, .slice (some ⟨W2.heap.size, 0, none⟩) 1 1, .string ⟨#[98, 97, 100, 32, 118, 101, 114, 115, 105, 111, 110]⟩] 30 := h3.set 2 _
    have b4 : Below w.heap.size w ((((W2.setCell ⟨w.heap.size + 1, 0, none⟩ (.int .i64 426)).alloc (.cells #[.string ⟨#[83, 101, 99, 45, 87, 101, 98, 83, 111, 99, 107, 101, 116, 45, 86, 101, 114, 115, 105, 111, 110]⟩, .string ⟨#[49, 51]⟩] 37)).setCell ⟨w.heap.size + 1, 1, none⟩ (.slice (some ⟨W2.heap.size, 0, none⟩) 1 1)).setCell ⟨w.heap.size + 1, 2, none⟩ (.string ⟨#[98, 97, 100, 32, 118, 101, 114, 115, 105, 111, 110]⟩)) := b3.setCell (p := ⟨w.heap.size + 1, 2, none⟩) hgl _
    obtain ⟨W3, hW3⟩ : ∃ W, W = (((W2.setCell ⟨w.heap.size + 1, 0, none⟩ (.int .i64 426)).alloc (.cells #[.string ⟨#[83, 101, 99, 45, 87, 101, 98, 83, 111, 99, 107, 101, 116, 45, 86, 101, 114, 115, 105, 111, 110]⟩, .string ⟨#[49, 51]⟩] 37)).setCell ⟨w.heap.size + 1, 1, none⟩ (.slice (some ⟨W2.heap.size, 0, none⟩) 1 1)).setCell ⟨w.heap.size + 1, 2, none⟩ (.string ⟨#[98, 97, 100, 32, 118, 101, 114, 115, 105, 111, 110]⟩) := ⟨_, rfl⟩
    rw [← hW3] at h4 b4
    have HF := Lib.hid (And.intro h4 b4)
    have HO : Hid (W3.ownsRow w.heap.size 37 2 (.slice (some ⟨W2.heap.size, 0, none⟩) 1 1) 1 (fcells (replyF ([], 426)).1)) := Lib.hid (own_lit (g := W2.heap.size) (fs := (replyF ([], 426)).1) (cs := #[.string ⟨#[83, 101, 99, 45, 87, 101, 98, 83, 111, 99, 107, 101, 116, 45, 86, 101, 114, 115, 105, 111, 110]⟩, .string ⟨#[49, 51]⟩]) (by
      rw [hW3]
      have hne : W2.heap.size ≠ w.heap.size + 1 := by have := HG.out; omega
      have hn : Row ((W2.setCell ⟨w.heap.size + 1, 0, none⟩ (.int .i64 426)).alloc (.cells #[.string ⟨#[83, 101, 99, 45, 87, 101, 98, 83, 111, 99, 107, 101, 116, 45, 86, 101, 114, 115, 105, 111, 110]⟩, .string ⟨#[49, 51]⟩] 37)) W2.heap.size #[.string ⟨#[83, 101, 99, 45, 87, 101, 98, 83, 111, 99, 107, 101, 116, 45, 86, 101, 114, 115, 105, 111, 110]⟩, .string ⟨#[49, 51]⟩] 37 := by
        have := row_new (W2.setCell ⟨w.heap.size + 1, 0, none⟩ (.int .i64 426)) #[.string ⟨#[83, 101, 99, 45, 87, 101, 98, 83, 111, 99, 107, 101, 116, 45, 86, 101, 114, 115, 105, 111, 110]⟩, .string ⟨#[49, 51]⟩] 37
        rwa [setc_size] at this
      exact (hn.setc hne _ _).setc hne _ _) (by have := b0.size; omega) rfl (by show (1 : Nat) ≤ 1000; decide))
    have z0 : (W2).cell? ⟨w.heap.size + 1, 0, none⟩ = some (.int .i64 0) ∧ (W2).cell? ⟨w.heap.size + 1, 1, none⟩ = some (.slice none 0 0) ∧ (W2).cell? ⟨w.heap.size + 1, 2, none⟩ = some (.string ⟨#[]⟩) := ⟨cell_of_row _ _ 0 _ _ (0, 0) h0, cell_of_row _ _ 1 _ _ (0, 0) h0, cell_of_row _ _ 2 _ _ (0, 0) h0⟩
    obtain ⟨z0a, z0b, z0c⟩ := z0
    have f0a := h0.frozen 0
    have f0b := h0.frozen 1
    have f0c := h0.frozen 2
    have z1 : (W2.setCell ⟨w.heap.size + 1, 0, none⟩ (.int .i64 426)).cell? ⟨w.heap.size + 1, 0, none⟩ = some (.int .i64 426) ∧ (W2.setCell ⟨w.heap.size + 1, 0, none⟩ (.int .i64 426)).cell? ⟨w.heap.size + 1, 1, none⟩ = some (.slice none 0 0) ∧ (W2.setCell ⟨w.heap.size + 1, 0, none⟩ (.int .i64 426)).cell? ⟨w.heap.size + 1, 2, none⟩ = some (.string ⟨#[]⟩) := ⟨cell_of_row _ _ 0 _ _ (0, 0) h1, cell_of_row _ _ 1 _ _ (0, 0) h1, cell_of_row _ _ 2 _ _ (0, 0) h1⟩
    obtain ⟨z1a, z1b, z1c⟩ := z1
    have f1a := h1.frozen 0
    have f1b := h1.frozen 1
    have f1c := h1.frozen 2
    have z2 : ((W2.setCell ⟨w.heap.size + 1, 0, none⟩ (.int .i64 426)).alloc (.cells #[.string ⟨#[83, 101, 99, 45, 87, 101, 98, 83, 111, 99, 107, 101, 116, 45, 86, 101, 114, 115, 105, 111, 110]⟩, .string ⟨#[49, 51]⟩] 37)).cell? ⟨w.heap.size + 1, 0, none⟩ = some (.int .i64 426) ∧ ((W2.setCell ⟨w.heap.size + 1, 0, none⟩ (.int .i64 426)).alloc (.cells #[.string ⟨#[83, 101, 99, 45, 87, 101, 98, 83, 111, 99, 107, 101, 116, 45, 86, 101, 114, 115, 105, 111, 110]⟩, .string ⟨#[49, 51]⟩] 37)).cell? ⟨w.heap.size + 1, 1, none⟩ = some (.slice none 0 0) ∧ ((W2.setCell ⟨w.heap.size + 1, 0, none⟩ (.int .i64 426)).alloc (.cells #[.string ⟨#[83, 101, 99, 45, 87, 101, 98, 83, 111, 99, 107, 101, 116, 45, 86, 101, 114, 115, 105, 111, 110]⟩, .string ⟨#[49, 51]⟩] 37)).cell? ⟨w.heap.size + 1, 2, none⟩ = some (.string ⟨#[]⟩) := ⟨cell_of_row _ _ 0 _ _ (0, 0) h2, cell_of_row _ _ 1 _ _ (0, 0) h2, cell_of_row _ _ 2 _ _ (0, 0) h2⟩
    obtain ⟨z2a, z2b, z2c⟩ := z2
    have f2a := h2.frozen 0
    have f2b := h2.frozen 1
    have f2c := h2.frozen 2
    have z3 : (((W2.setCell ⟨w.heap.size + 1, 0, none⟩ (.int .i64 426)).alloc (.cells #[.string ⟨#[83, 101, 99, 45, 87, 101, 98, 83, 111, 99, 107, 101, 116, 45, 86, 101, 114, 115, 105, 111, 110]⟩, .string ⟨#[49, 51]⟩] 37)).setCell ⟨w.heap.size + 1, 1, none⟩ (.slice (some ⟨W2.heap.size, 0, none⟩) 1 1)).cell? ⟨w.heap.size + 1, 0, none⟩ = some (.int .i64 426) ∧ (((W2.setCell ⟨w.heap.size + 1, 0, none⟩ (.int .i64 426)).alloc (.cells #[.string ⟨#[83, 101, 99, 45, 87, 101, 98, 83, 111, 99, 107, 101, 116, 45, 86, 101, 114, 115, 105, 111, 110]⟩, .string ⟨#[49, 51]⟩] 37)).setCell ⟨w.heap.size + 1, 1, none⟩ (.slice (some ⟨W2.heap.size, 0, none⟩) 1 1)).cell? ⟨w.heap.size + 1, 1, none⟩ = some (.slice (some ⟨W2.heap.size, 0, none⟩) 1 1) ∧ (((W2.setCell ⟨w.heap.size + 1, 0, none⟩ (.int .i64 426)).alloc (.cells #[.string ⟨#[83, 101, 99, 45, 87, 101, 98, 83, 111, 99, 107, 101, 116, 45, 86, 101, 114, 115, 105, 111, 110]⟩, .string ⟨#[49, 51]⟩] 37)).setCell ⟨w.heap.size + 1, 1, none⟩ (.slice (some ⟨W2.heap.size, 0, none⟩) 1 1)).cell? ⟨w.heap.size + 1, 2, none⟩ = some (.string ⟨#[]⟩) := ⟨cell_of_row _ _ 0 _ _ (0, 0) h3, cell_of_row _ _ 1 _ _ (0, 0) h3, cell_of_row _ _ 2 _ _ (0, 0) h3⟩
    obtain ⟨z3a, z3b, z3c⟩ := z3
    have f3a := h3.frozen 0
    have f3b := h3.frozen 1
    have f3c := h3.frozen 2
    have z4 : (W3).cell? ⟨w.heap.size + 1, 0, none⟩ = some (.int .i64 426) ∧ (W3).cell? ⟨w.heap.size + 1, 1, none⟩ = some (.slice (some ⟨W2.heap.size, 0, none⟩) 1 1) ∧ (W3).cell? ⟨w.heap.size + 1, 2, none⟩ = some (.string ⟨#[98, 97, 100, 32, 118, 101, 114, 115, 105, 111, 110]⟩) := ⟨cell_of_row _ _ 0 _ _ (0, 0) h4, cell_of_row _ _ 1 _ _ (0, 0) h4, cell_of_row _ _ 2 _ _ (0, 0) h4⟩
    obtain ⟨z4a, z4b, z4c⟩ := z4
    have f4a := h4.frozen 0
    have f4b := h4.frozen 1
    have f4c := h4.frozen 2
    rw [hW3] at z4a z4b z4c f4a f4b f4c
    clear h0 b0 h1 b1 h2 b2 h3 b3 h4 b4 hgl
    go_wp2
    rw [← hW3]
    refine bodyPost_ret (results_row_tmp rfl _ _ (w.heap.size + 1) 30 #[.int .i64 426, .slice (some ⟨W2.heap.size, 0, none⟩) 1 1, .string ⟨#[98, 97, 100, 32, 118, 101, 114, 115, 105, 111, 110]⟩] (0, 0) _ rfl (put3_row HF.out.1 (.int .i64 426) (.slice (some ⟨W2.heap.size, 0, none⟩) 1 1) (.string ⟨#[98, 97, 100, 32, 118, 101, 114, 115, 105, 111, 110]⟩)) Tryd.underlying30 rfl infoRp) rfl ?_
    exact ⟨.slice (some ⟨W2.heap.size, 0, none⟩) 1 1, rfl, own_same HO.out (fun j hj => by obtain rfl := Option.some.inj hj; exact put3_other (by show W2.heap.size ≠ w.heap.size + 1; have := HG.out; omega) _ _ _), put3_below HF.out.2 (by omega) _ _ _⟩
  · have HC := Lib.hid hC
    clear hC
    go_enter Tryd.func13, Tryd.ntmps13
    go_wp2_with fail
    refine HC.out.mono ?_
    rintro e W2 ⟨rfl, hB⟩
    rw [← hW1] at hB
    have h0 : Row W2 (w.heap.size + 1) #[.int .i64 0, .slice none 0 0, .string ⟨#[]⟩] 30 := H1.out.1.below hB H1.out.1.lt
    have b0 := H1.out.2.trans (hB.mono H1.out.2.size)
    clear HC hB H1 hW1
    have HG := Lib.hid h0.lt
    have hgl : w.heap.size ≤ w.heap.size + 1 := by omega
    have h1 : Row (W2.setCell ⟨w.heap.size + 1, 0, none⟩ (.int .i64 400)) (w.heap.size + 1) #[.int .i64 400, .slice none 0 0, .string ⟨#[]⟩] 30 := h0.set 0 _
    have b1 : Below w.heap.size w (W2.setCell ⟨w.heap.size + 1, 0, none⟩ (.int .i64 400)) := b0.setCell (p := ⟨w.heap.size + 1, 0, none⟩) hgl _
    have h2 : Row ((W2.setCell ⟨w.heap.size + 1, 0, none⟩ (.int .i64 400)).setCell ⟨w.heap.size + 1, 2, none⟩ (.string ⟨#[98, 97, 100, 32, 104, 97, 110, 100, 115, 104, 97, 107, 101]⟩)) (w.heap.size + 1) #[.int .i64 400, .slice none 0 0, .string ⟨#[98, 97, 100, 32, 104, 97, 110, 100, 115, 104, 97, 107, 101]⟩] 30 := h1.set 2 _
    have b2 : Below w.heap.size w ((W2.setCell ⟨w.heap.size + 1, 0, none⟩ (.int .i64 400)).setCell ⟨w.heap.size + 1, 2, none⟩ (.string ⟨#[98, 97, 100, 32, 104, 97, 110, 100, 115, 104, 97, 107, 101]⟩)) := b1.setCell (p := ⟨w.heap.size + 1, 2, none⟩) hgl _
    obtain ⟨W3, hW3⟩ : ∃ W, W = (W2.setCell ⟨w.heap.size + 1, 0, none⟩ (.int .i64 400)).setCell ⟨w.heap.size + 1, 2, none⟩ (.string ⟨#[98, 97, 100, 32, 104, 97, 110, 100, 115, 104, 97, 107, 101]⟩) := ⟨_, rfl⟩
    rw [← hW3] at h2 b2
    have HF := Lib.hid (And.intro h2 b2)
    have z0 : (W2).cell? ⟨w.heap.size + 1, 0, none⟩ = some (.int .i64 0) ∧ (W2).cell? ⟨w.heap.size + 1, 1, none⟩ = some (.slice none 0 0) ∧ (W2).cell? ⟨w.heap.size + 1, 2, none⟩ = some (.string ⟨#[]⟩) := ⟨cell_of_row _ _ 0 _ _ (0, 0) h0, cell_of_row _ _ 1 _ _ (0, 0) h0, cell_of_row _ _ 2 _ _ (0, 0) h0⟩
    obtain ⟨z0a, z0b, z0c⟩ := z0
    have f0a := h0.frozen 0
    have f0b := h0.frozen 1
    have f0c := h0.frozen 2
    have z1 : (W2.setCell ⟨w.heap.size + 1, 0, none⟩ (.int .i64 400)).cell? ⟨w.heap.size + 1, 0, none⟩ = some (.int .i64 400) ∧ (W2.setCell ⟨w.heap.size + 1, 0, none⟩ (.int .i64 400)).cell? ⟨w.heap.size + 1, 1, none⟩ = some (.slice none 0 0) ∧ (W2.setCell ⟨w.heap.size + 1, 0, none⟩ (.int .i64 400)).cell? ⟨w.heap.size + 1, 2, none⟩ = some (.string ⟨#[]⟩) := ⟨cell_of_row _ _ 0 _ _ (0, 0) h1, cell_of_row _ _ 1 _ _ (0, 0) h1, cell_of_row _ _ 2 _ _ (0, 0) h1⟩
    obtain ⟨z1a, z1b, z1c⟩ := z1
    have f1a := h1.frozen 0
    have f1b := h1.frozen 1
    have f1c := h1.frozen 2
    have z2 : (W3).cell? ⟨w.heap.size + 1, 0, none⟩ = some (.int .i64 400) ∧ (W3).cell? ⟨w.heap.size + 1, 1, none⟩ = some (.slice none 0 0) ∧ (W3).cell? ⟨w.heap.size + 1, 2, none⟩ = some (.string ⟨#[98, 97, 100, 32, 104, 97, 110, 100, 115, 104, 97, 107, 101]⟩) := ⟨cell_of_row _ _ 0 _ _ (0, 0) h2, cell_of_row _ _ 1 _ _ (0, 0) h2, cell_of_row _ _ 2 _ _ (0, 0) h2⟩
    obtain ⟨z2a, z2b, z2c⟩ := z2
    have f2a := h2.frozen 0
    have f2b := h2.frozen 1
    have f2c := h2.frozen 2
    rw [hW3] at z2a z2b z2c f2a f2b f2c
    clear h0 b0 h1 b1 h2 b2 hgl
    go_wp2
    rw [← hW3]
    refine bodyPost_ret (results_row_tmp rfl _ _ (w.heap.size + 1) 30 #[.int .i64 400, .slice none 0 0, .string ⟨#[98, 97, 100, 32, 104, 97, 110, 100, 115, 104, 97, 107, 101]⟩] (0, 0) _ rfl (put3_row HF.out.1 (.int .i64 400) (.slice none 0 0) (.string ⟨#[98, 97, 100, 32, 104, 97, 110, 100, 115, 104, 97, 107, 101]⟩)) Tryd.underlying30 rfl infoRp) rfl ?_
    exact ⟨.slice none 0 0, rfl, own_none _ _, put3_below HF.out.2 (by omega) _ _ _⟩
end Go.Proofs.YtnaekjmlikhglaaDoor
/- The landed package of hands does what is asked of it; what a row says of sha's first words. (mkdw.py writes it.) -/
namespace Go.Proofs.YtnaekjmlikhglaaDoor
open Go.RowKit

theorem handI {w : World} (h : sa.Start w) : HandI w where
  accept := fun k w' hb hk => accept17_any k (Nat.le_trans hk (by decide)) w' (h.below hb h.lt)
  check := fun m p q v V body cl fs b o w' hb hA hs => check17_any m p q v V body cl fs b o w' hA hs (h.below hb h.lt)
  answer := fun m p q v V body cl fs b o w' hb hA hs => answer17_any m p q v V body cl fs b o w' hA hs (h.below hb h.lt)
/-- What a row says of sha's first words. -/
theorem start_of {l : List (String × DataW Unit)} (hm : ("crier/sha.start", Rows.laid_crier_sha_start) ∈ l) {W : World} (h : laidMet Tryd.prog l W) : sa.Start W := by
  obtain ⟨g', t', cs, fuel, p, hg', ht', hvar, hd⟩ := Lib.laidMet.reads h (n := "crier/sha.start") (d := Rows.laid_crier_sha_start) hm
  obtain rfl := Option.some.inj (hg'.symm.trans (show Tryd.prog.globalNamed "crier/sha.start" = some 0 by kernel_rfl))
  obtain rfl := Option.some.inj ((show (Tryd.prog.globals[0]?).map (·.type) = some 65 by kernel_rfl).symm.trans ht')
  have hc := Lib.cells_of_tab (k := .u32) (n := 5) (zs := [1732584193, 4023233417, 2562383102, 271733878, 3285377520]) Tryd.underlying65 Tryd.underlying64 (by kernel_rfl) (by kernel_rfl) (show DataW.trod _ Tryd.prog W 0 _ false fuel 65 cs.toList = some (Lib.tabData .u32 [1732584193, 4023233417, 2562383102, 271733878, 3285377520], p) from hd)
  intro j v hv
  rw [Nat.zero_add]
  have := World.var?_cell hg' hvar j
  rw [this]
  have e : cs = (sa.start5.l.map sa.U).toArray := by
    obtain ⟨l⟩ := cs
    simp only at hc
    rw [hc]; rfl
  rw [e]; simpa using hv
end Go.Proofs.YtnaekjmlikhglaaDoor
