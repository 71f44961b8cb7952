/- Walks of package limb: timesPlus: a number of the call's own is multiplied in its place, and a limb is added. -/
import Derived.Maps.AppendAt
import Derived.Test.YtfckjapedjjhpaaDoorLimbE
namespace Go.Proofs.YtfckjapedjjhpaaDoor
open Go.RowKit
namespace LM

/-- where the loop stands when k limbs are done -/
def TpRel (w : World) (g : Nat) (xs : List Nat) (rest : List Value) (n m : Nat) (c i : Value) (wr : World) : Prop :=
  ∃ (k : Nat) (zs : List Nat) (cy : Nat), k ≤ xs.length ∧ i = .int .i64 (k : Int) ∧ c = .int .u64 (cy : Int) ∧ cy < 4294967296 ∧ zs.length = k ∧ Lm zs ∧
    val zs + 4294967296 ^ k * cy = val (xs.take k) * n + m ∧ Blk wr g (U (zs ++ xs.drop k) ++ rest) ∧ w.grownBy wr (some g)

theorem blk_cell0 {w : World} {g : Nat} {rest : List Value} {zs xs : List Nat} {k : Nat} (h : Blk w g (U (zs ++ xs.drop k) ++ rest)) (hz : zs.length = k) (hk : k < xs.length) :
    w.cell? ⟨g, k, none⟩ = some (.int .u32 ((xs[k]?.getD 0 : Nat) : Int)) := by
  rw [h.cell, List.getElem?_append_left (by rw [U_len]; simp; omega), U_get _ _ (by simp; omega)]
  congr 3
  rw [List.getElem?_append_right (by omega), List.getElem?_drop]
  congr 2; omega
theorem blk_set0 {w : World} {g : Nat} {rest : List Value} {zs xs : List Nat} {k : Nat} (h : Blk w g (U (zs ++ xs.drop k) ++ rest)) (hz : zs.length = k) (hk : k < xs.length) (y : Nat) {v : Value} (hv : v = .int .u32 (y : Int)) :
    Blk (w.setCell ⟨g, k, none⟩ v) g (U ((zs ++ [y]) ++ xs.drop (k + 1)) ++ rest) := by
  subst hv
  have h1 := h.set_ k (.int .u32 (y : Int))
  rw [drop_cons_get xs k hk, List.set_append_left _ _ (by rw [U_len]; simp; omega)] at h1
  subst hz
  have e := set_mid [] zs (xs.drop (zs.length + 1)) [] (xs[zs.length]?.getD 0) y
  simp only [List.nil_append, List.append_nil, List.length_nil, Nat.zero_add] at e
  rw [e] at h1
  simpa using h1

/-- an owned row of limbs, taken apart -/
theorem own_cases {w : World} {base : Nat} {v : Value} {xs : List Nat} (h : w.ownsRow base 51 1 v xs.length (U xs)) :
    (v = .slice none 0 0 ∧ xs = []) ∨ ∃ g cap rest, v = .slice (some ⟨g, 0, none⟩) xs.length cap ∧ base ≤ g ∧ Blk w g (U xs ++ rest) ∧ xs.length ≤ cap ∧ cap ≤ maxLen ∧ (U xs ++ rest).length = cap := by
  obtain ⟨_, h | ⟨g, cap, cur, rfl, hb, hh, hn, hc, hs, ht⟩⟩ := h
  · exact .inl ⟨h.1, List.eq_nil_of_length_eq_zero h.2⟩
  · refine .inr ⟨g, cap, cur.toList.drop xs.length, rfl, hb, ?_, hn, hc, ?_⟩
    · unfold Blk
      rw [← ht, Nat.mul_one, List.take_append_drop]
      exact hh
    · rw [← ht, Nat.mul_one, List.take_append_drop]
      simpa using hs
theorem own_of_blk {w : World} {base g cap : Nat} {xs : List Nat} {rest : List Value} (h : Blk w g (U xs ++ rest)) (hb : base ≤ g) (hc : cap ≤ maxLen) (hl : (U xs ++ rest).length = cap) :
    w.ownsRow base 51 1 (.slice (some ⟨g, 0, none⟩) xs.length cap) xs.length (U xs) := by
  refine ⟨by simp [U_len], .inr ⟨g, cap, (U xs ++ rest).toArray, rfl, hb, h, ?_, hc, by simpa using hl, ?_⟩⟩
  · rw [← hl]; simp [U_len]
  · simp [U_len]
theorem u_one (xs : List Nat) : ∀ v ∈ U xs, v.oneCell' = true := by
  intro v hv
  simp only [U, List.mem_map] at hv
  obtain ⟨x, _, rfl⟩ := hv
  rfl

set_option maxRecDepth 100000 in
set_option maxHeartbeats 400000 in
theorem timesPlus_any (base : Nat) (v : Value) (xs : List Nat) (n m : Nat) (w : World) (ho : w.ownsRow base 51 1 v xs.length (U xs)) (hx : Lm xs) (hn : n < 4294967296) (hm : m < 4294967296) (hl : xs.length ≤ 4000) (hbase : base ≤ w.heap.size) :
    Calls Tryd.prog 90 #[v, .int .u32 (n : Int), .int .u32 (m : Int)] w fun e w' =>
      ∃ (v' : Value) (zs : List Nat), e = .returned v' ∧ w'.ownsRow base 51 1 v' zs.length (U zs) ∧ Lm zs ∧ val zs = val xs * n + m ∧ zs.length ≤ xs.length + 1 ∧ Below base w w' := by
  obtain ⟨i0, hi0, hz0, hz1, hz2⟩ := info_parts u32_info
  rcases own_cases ho with ⟨rfl, rfl⟩ | ⟨g, cap, rest, rfl, hgb, hB0, hcap, hcm, hlen⟩
  · rcases Nat.eq_zero_or_pos m with rfl | hpos
    · go_enter Tryd.func90, Tryd.ntmps90
      go_wp2
      go_loopw [7, 13] (fun c i wr => c = .int .u64 0 ∧ i = .int .i64 0 ∧ w = wr) (fun _ _ _ => 0)
      case atStart => exact ⟨rfl, rfl, rfl⟩
      case round =>
        obtain ⟨rfl, rfl, rfl⟩ := hrel
        go_wp2
        go_ret
        exact ⟨_, [], rfl, ho, Lm.nil, by simp [val], by simp, Below.refl _ _⟩
    · go_enter Tryd.func90, Tryd.ntmps90
      go_wp2
      go_loopw [7, 13] (fun c i wr => c = .int .u64 (m : Int) ∧ i = .int .i64 0 ∧ w = wr) (fun _ _ _ => 0)
      case atStart => exact ⟨rfl, rfl, rfl⟩
      case round =>
        obtain ⟨rfl, rfl, rfl⟩ := hrel
        go_wp2_with (at_builtin; refine wpList_append_own _ rfl _ _ 22 rfl base 51 i0 (.int .u32 0) 1 4 Tryd.underlying22 hi0 hz0 hz1 hz2 rfl (by decide) _ _ _ rfl (ho.alloc _) ⟨w.heap.size, 0, none⟩ 1 1 [.int .u32 (m : Int)] rfl rfl (cell_one_new _ _ _) (by simp [Value.oneCell']) (by simp [maxLen]) (by simp) (by simp; omega) ?_; intro v1 w1 hown1 hg1 _)
        go_ret
        refine ⟨v1, [m], rfl, by simpa [U] using hown1, Lm.cons hm Lm.nil, by simp [val], by simp, ?_⟩
        exact ((Below.refl base w).alloc hbase _).grown hg1 (by simp; omega) (fun k e => by have e2 : (Value.slice none 0 0).ownBlock = some k := e; cases e2)
  · have hL := Lib.hid hlen
    clear hlen
    go_enter Tryd.func90, Tryd.ntmps90
    go_wp2
    go_loopw [7, 13] (fun c i wr => TpRel w g xs rest n m c i wr) (fun _ i _ => xs.length - (intOf i).toNat)
    case atStart => exact ⟨0, [], m, Nat.zero_le _, rfl, rfl, hm, rfl, Lm.nil, by simp [val], by simpa using hB0, only_refl _ _⟩
    case round =>
      obtain ⟨k, zs, cy, hk, rfl, rfl, hcy, hzl, hzL, hv, hB, hG⟩ := hrel
      have HV := Lib.hid hv
      have HZ := Lib.hid hzl
      clear hv
      by_cases hlt : k < xs.length
      · have hc1 := blk_cell0 hB hzl (by omega : k < xs.length)
        have hf1 := hB.frozen k
        have hxk := hx.get k
        have hp : (((xs[k]?.getD 0 : Nat) : Int) * (n : Int)) = ((xs[k]?.getD 0 * n : Nat) : Int) := by simp
        have hpl := prod_le hxk hn
        have hst := timesPlus_step (xs := xs) (n := n) (m := m) hzl HV.out
        generalize hxe : xs[k]?.getD 0 = x at *
        generalize hpe : x * n = p at *
        have HST := Lib.hid hst
        clear hst hxe hpe hzl
        go_wp2
        go_roundw
        case rel =>
          refine ⟨k + 1, zs ++ [(cy + p) % 4294967296], (cy + p) / 4294967296, by omega, by go_num, by congr 1, carry2_lt hcy hpl, by simp [HZ.out], hzL.snoc (Nat.mod_lt _ (by decide)), HST.out, ?_, ?_⟩
          · exact blk_set0 hB HZ.out (by omega) _ (by congr 1)
          · exact only_setCell hG (.inl rfl) _
        case measure => simp [intOf]; omega
      · obtain rfl : k = xs.length := by omega
        have hB1 : Blk wr g (U zs ++ rest) := by simpa using hB
        have hlz : (U zs ++ rest).length = cap := by
          have h := hL.out
          simp only [List.length_append, U_len, HZ.out] at h ⊢
          exact h
        have hown := own_of_blk (base := base) hB1 hgb hcm hlz
        have HLZ := Lib.hid hlz
        have hVF : val zs + 4294967296 ^ xs.length * cy = val xs * n + m := by
          have h := HV.out
          rwa [List.take_length (l := xs)] at h
        have HVF := Lib.hid hVF
        have hbl : Below base w wr := below_of_only (Below.refl base w) hG hgb hbase
        rw [HZ.out] at hown
        clear hlz hVF hzl hB hB1
        rcases Nat.eq_zero_or_pos cy with rfl | hpos
        · go_wp2
          go_ret
          refine ⟨_, zs, rfl, by rw [HZ.out]; exact hown, hzL, by have := HVF.out; simpa using this, by rw [HZ.out]; omega, hbl⟩
        · have hbs : base ≤ wr.heap.size := Nat.le_trans hbase hbl.size
          go_wp2_with (at_builtin; refine wpList_append_own _ rfl _ _ 22 rfl base 51 i0 (.int .u32 0) 1 4 Tryd.underlying22 hi0 hz0 hz1 hz2 rfl (by decide) _ _ _ rfl (hown.alloc _) ⟨wr.heap.size, 0, none⟩ 1 1 [.int .u32 (cy : Int)] rfl rfl (cell_one_new _ _ _) (by simp [Value.oneCell']) (by unfold maxLen; omega) (by omega) (by simp; omega) ?_; intro v1 w1 hown1 hg1 _)
          go_ret
          refine ⟨v1, zs ++ [cy], rfl, ?_, hzL.snoc hcy, by rw [val_snoc, HZ.out]; exact HVF.out, by simp [HZ.out], ?_⟩
          · have e : (zs ++ [cy]).length = xs.length + 1 := by simp [HZ.out]
            rw [e, U_append]
            exact hown1
          · exact (hbl.alloc hbs _).grown hg1 (by simp; omega) (fun k e => by have e2 : (Value.slice (some ⟨g, 0, none⟩) xs.length cap).ownBlock = some k := e; have e3 : some g = some k := e2; injection e3 with e3; omega)

end LM
end Go.Proofs.YtfckjapedjjhpaaDoor
