/- The long division's loop, apart from the walk: what stands between two rounds. -/
import Derived.Test.YtkkogmgboehfdaaDoorLimbInv
namespace Go.Proofs.YtkkogmgboehfdaaDoor
open Go Go.RowKit
namespace LM

/-- what the places that have come, if they came in order, have made of the rest and of the quotient -/
def DvOrd (R0 D m : Nat) (pl cur qq : List Nat) : Prop :=
  pl = downs m pl.length → pl.length ≤ m → ∃ qs, qq = List.replicate (m - pl.length) 0 ++ qs ∧ val (cur.drop (m - pl.length)) < D ∧ R0 = val cur + D * 4294967296 ^ (m - pl.length) * val qs

theorem set_rep (j q : Nat) (qs : List Nat) : (List.replicate (j + 1) 0 ++ qs).set j q = List.replicate j 0 ++ q :: qs := by
  rw [List.replicate_succ', List.append_assoc, List.set_append_right _ _ (by simp)]
  simp

theorem DvOrd.next {R0 D m n j qd : Nat} {pl cur qq zs : List Nat} (h : DvOrd R0 D m pl cur qq) (hj : j < m) (hL : Lm cur) (hlen : cur.length = m + n) (hD : D ≤ 4294967296 ^ n) (hz : zs.length = n + 1)
    (hv : val zs + D * qd = val ((cur.drop j).take (n + 1))) (hlow : val ((cur.drop j).take (n + 1)) < D * 4294967296 → val zs < D) :
    DvOrd R0 D m (pl ++ [j]) (cur.take j ++ zs ++ cur.drop (j + n + 1)) (qq.set j qd) := by
  intro hd hl
  rw [List.length_append, List.length_singleton] at hd hl ⊢
  rw [downs_succ] at hd
  obtain ⟨e1, e2⟩ := List.append_inj' hd rfl
  have e3 : j = m - 1 - pl.length := by simpa using e2
  obtain ⟨qs, e4, e5, e6⟩ := h e1 (by omega)
  have hm : m - pl.length = j + 1 := by omega
  have hm2 : m - (pl.length + 1) = j := by omega
  rw [hm] at e4 e5 e6
  rw [hm2]
  obtain ⟨w1, w2, w3⟩ := win_val (i := j) (n := n) hL (by omega) e5 hD
  rw [← w1] at w3
  have h1 := hlow w3
  obtain ⟨r1, r2, r3⟩ := div_round (i := j) (n := n) (zs := zs) (q := qd) (qs := qs) (by omega) hz w2 w1 e6 hv
  exact ⟨qd :: qs, by rw [e4, set_rep], by rw [r2]; exact h1, r1⟩

theorem DvOrd.start {R0 D m : Nat} {cur : List Nat} (h : val (cur.drop m) < D) (hv : R0 = val cur) : DvOrd R0 D m [] cur (List.replicate m 0) :=
  fun _ _ => ⟨[], by simp, by simpa using h, by simpa [val] using hv⟩

/-- the long division's memory between two rounds: b3 holds the divisor as it came, p the rest, q the shifted divisor, bq the quotient, bs the quotient for the library's loop -/
def DvI (w0 : World) (B : Option Addr) (cb xl yl m R0 D b3 g d h p q bq bs : Nat) (ds : List Nat) (pre : List (Plc m fun _ _ => True)) (W : World) : Prop :=
  ∃ (cur qq : List Nat), cur.length = xl + 1 ∧ Lm cur ∧ qq.length = m ∧ Lm qq ∧ Blk W g (U cur) ∧ Blk W d (U ds) ∧ Blk W h (U qq) ∧ SBox W b3 (.slice B yl cb) ∧
    SBox W p (.slice (some ⟨g, 0, none⟩) (xl + 1) (xl + 1)) ∧ SBox W q (.slice (some ⟨d, 0, none⟩) yl (yl + 1)) ∧ SBox W bq (.slice (some ⟨h, 0, none⟩) m m) ∧ SBox W bs (.slice (some ⟨h, 0, none⟩) m m) ∧
    Below w0.heap.size w0 W ∧ DvOrd R0 D m (pre.map plc) cur qq

theorem DvI.own {w0 : World} {B : Option Addr} {cb xl yl m R0 D b3 g d h p q bq bs : Nat} {ds : List Nat} {B0 : Nat} (hB : w0.heap.size ≤ B0) : OwnFrom B0 (DvI w0 B cb xl yl m R0 D b3 g d h p q bq bs ds) := fun _ _ _ _ hs hg hr => by
  obtain ⟨cur, qq, a1, a2, a3, a4, a5, a6, a7, a8, a9, a10, a11, a12, a13, a14⟩ := hs
  have hr2 := fun r e => (hr r e).2
  exact ⟨cur, qq, a1, a2, a3, a4, a5.kept hg hr2, a6.kept hg hr2, a7.kept hg hr2, a8.kept hg hr2, a9.kept hg hr2, a10.kept hg hr2, a11.kept hg hr2, a12.kept hg hr2,
    a13.grown hg a13.size (fun r e => Nat.le_trans hB (hr r e).1), a14⟩

/-- the library's loop can go on -/
theorem DvI.bw {w0 : World} {B : Option Addr} {cb xl yl m R0 D b3 g d h p q bq bs : Nat} {ds : List Nat} {pre : List (Plc m fun _ _ => True)} {W : World} (hs : DvI w0 B cb xl yl m R0 D b3 g d h p q bq bs ds pre W) :
    BwOk bs (some ⟨h, 0, none⟩) m m (fun _ _ => True) W := by
  obtain ⟨cur, qq, a1, a2, a3, a4, a5, a6, a7, a8, a9, a10, a11, a12, a13, a14⟩ := hs
  exact ⟨a12.cell, fun _ => ⟨h, 0, rfl, fun k hk => ⟨_, trivial, by rw [Nat.zero_add, a7.cell, U_get _ _ (by omega)]⟩⟩⟩

/-- one round: the window has been turned, and then the quotient's limb -/
theorem DvI.step {w0 : World} {B : Option Addr} {cb xl yl m R0 b3 g d h p q bq bs : Nat} {ds dt : List Nat} {pre : List (Plc m fun _ _ => True)} {W W2 : World} {cur qq zs : List Nat} {x : Plc m fun _ _ => True} {qd : Nat}
    (a1 : cur.length = xl + 1) (a2 : Lm cur) (a3 : qq.length = m) (a4 : Lm qq) (a6 : Blk W d (U ds)) (a7 : Blk W h (U qq)) (a8 : SBox W b3 (.slice B yl cb))
    (a9 : SBox W p (.slice (some ⟨g, 0, none⟩) (xl + 1) (xl + 1))) (a10 : SBox W q (.slice (some ⟨d, 0, none⟩) yl (yl + 1))) (a11 : SBox W bq (.slice (some ⟨h, 0, none⟩) m m)) (a12 : SBox W bs (.slice (some ⟨h, 0, none⟩) m m))
    (a13 : Below w0.heap.size w0 W) (a14 : DvOrd R0 (val dt) m (pre.map plc) cur qq) (hgW : Blk W g (U cur)) (hgd : g ≠ d) (hgh : g ≠ h) (hdh : d ≠ h) (hg0 : w0.heap.size ≤ g) (hh0 : w0.heap.size ≤ h)
    (hm : m + yl = xl + 1) (hD : val dt ≤ 4294967296 ^ yl)
    (hq : qd < 4294967296) (hz : zs.length = yl + 1) (hzL : Lm zs) (hv : val zs + val dt * qd = val ((cur.drop x.1.1).take (yl + 1))) (hlow : val ((cur.drop x.1.1).take (yl + 1)) < val dt * 4294967296 → val zs < val dt)
    (hB2 : Blk W2 g (U (cur.take x.1.1 ++ zs ++ cur.drop (x.1.1 + yl + 1)))) (hG : W.grownBy W2 (some g)) :
    DvI w0 B cb xl yl m R0 (val dt) b3 g d h p q bq bs ds (pre ++ [x]) (W2.setCell ⟨h, x.1.1, none⟩ (.int .u32 (qd : Int))) := by
  have hj : x.1.1 < m := x.2.1
  have n1 : ∀ {b : Nat} {v : Value}, SBox W b v → SBox (W2.setCell ⟨h, x.1.1, none⟩ (.int .u32 (qd : Int))) b v := fun hb => (hb.grown hG (fun e => by injection e with e; exact hb.ne hgW e)).far (hb.ne a7) _
  have hQ : Blk W2 h (U qq) := a7.grown hG (fun e => by injection e with e; exact hgh e.symm)
  have hQ2 := hQ.set_ x.1.1 (.int .u32 (qd : Int))
  have e := U_set qq [] x.1.1 qd (by omega)
  rw [List.append_nil, List.append_nil] at e
  rw [e] at hQ2
  refine ⟨_, qq.set x.1.1 qd, ?_, ((a2.take _).append hzL).append (a2.drop _), by rw [List.length_set]; exact a3, a4.set_ hq, hB2.far hgh _, (a6.grown hG (fun e => by injection e with e; exact hgd e.symm)).far hdh _, hQ2, n1 a8, n1 a9, n1 a10, n1 a11, n1 a12, ?_, ?_⟩
  · simp; omega
  · exact (a13.grown hG a13.size (fun k e => by injection e with e; omega)).setCell hh0 _
  · rw [List.map_append]
    exact a14.next hj a2 (by omega) hD hz hv hlow

/-- at the loop's end -/
theorem DvI.done {R0 D m : Nat} {cur qq : List Nat} {ys : List (Plc m fun _ _ => True)} (h : DvOrd R0 D m (ys.map plc) cur qq) (hd : ys.map plc = downs m m) : val cur < D ∧ R0 = val cur + D * val qq := by
  have hl : (ys.map plc).length = m := by rw [hd, downs_len]
  obtain ⟨qs, e1, e2, e3⟩ := h (by rw [hl]; exact hd) (by omega)
  rw [hl, Nat.sub_self] at e1 e2 e3
  simp only [List.replicate_zero, List.nil_append, List.drop_zero, Nat.pow_zero, Nat.mul_one] at e1 e2 e3
  subst e1
  exact ⟨e2, e3⟩

end LM
end Go.Proofs.YtkkogmgboehfdaaDoor
