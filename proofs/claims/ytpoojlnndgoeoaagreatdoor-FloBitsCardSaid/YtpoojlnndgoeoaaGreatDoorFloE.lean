/- A buffer of bytes that a call fills, beside the digits that it reads: what stays as it was from append to append. -/
import Derived.Test.YtpoojlnndgoeoaaGreatDoorFloC
import Derived.Test.YtpoojlnndgoeoaaGreatDoorLimbA
import Derived.Lib.ItoaMem
import Derived.Laws.AppendOwn
import Derived.Deep.CutRange
import Derived.Deep.DeepCutAuto
namespace Go.Proofs.YtpoojlnndgoeoaaGreatDoor
open Go Go.Shelf Go.RowKit Go.Sort Go.Lib
namespace LM
set_option linter.unusedVariables false

abbrev enc8 : UInt8 → Value := fun b => Value.int .u8 (b.toNat : Int)
/-- a block begins with these bytes -/
def BufHas (w : World) (g : Nat) (ds : List UInt8) : Prop := ∀ j (h : j < ds.length), w.cell? ⟨g, j, none⟩ = some (.int .u8 (ds[j].toNat : Int))
theorem only_putRow (w : World) (g off : Nat) (d : Array UInt8) : w.grownBy (putRow enc8 w g off d) (some g) :=
  ⟨rfl, rfl, rfl, by simp, fun i hi hne => by
    show (putRow enc8 w g off d).heap[i]? = w.heap[i]?
    have h : g ≠ i := fun e => hne (by rw [e])
    simp [putRow, mapBlock, Array.getElem?_modify, h]⟩

/-- how many digits there are, without zeros at the end -/
def nzd : List UInt8 → Nat
  | [] => 0
  | d :: ds => if nzd ds = 0 then (if d = 48 then 0 else 1) else nzd ds + 1
theorem nzd_le (ds : List UInt8) : nzd ds ≤ ds.length := by
  induction ds with
  | nil => exact Nat.le_refl _
  | cons d ds ih => unfold nzd; simp only [List.length_cons]; split <;> (try split) <;> omega
theorem nzd_snoc_zero (ds : List UInt8) : nzd (ds ++ [48]) = nzd ds := by
  induction ds with
  | nil => rfl
  | cons d ds ih => simp only [List.cons_append, nzd, ih]
theorem nzd_snoc_pos (ds : List UInt8) (d : UInt8) (h : d ≠ 48) : nzd (ds ++ [d]) = ds.length + 1 := by
  induction ds with
  | nil => simp [nzd, h]
  | cons c ds ih => simp only [List.cons_append, nzd, ih, List.length_cons]; simp
theorem nzd_take_zero (ds : List UInt8) (j : Nat) (h : j < ds.length) (hz : ds[j] = 48) : nzd (ds.take (j + 1)) = nzd (ds.take j) := by
  rw [List.take_succ_eq_append_getElem h, hz, nzd_snoc_zero]
theorem nzd_take_pos (ds : List UInt8) (j : Nat) (h : j < ds.length) (hz : ds[j] ≠ 48) : nzd (ds.take (j + 1)) = j + 1 := by
  rw [List.take_succ_eq_append_getElem h, nzd_snoc_pos _ _ hz, List.length_take, Nat.min_eq_left (by omega)]

def natV : Value → Nat | .int _ n => n.toNat | _ => 0

set_option maxRecDepth 100000 in
set_option maxHeartbeats 2000000 in
theorem setDigits_any (g u : Nat) (p : Int) (w : World) (hu : u < 18446744073709551616) (hH : Holds enc8 w g 0 (Array.replicate (nDigits u) 0)) (hn : nDigits u ≤ 20) (hp : -1000 ≤ p ∧ p ≤ 1000) :
    Calls Tryz.prog 142 #[.slice (some ⟨g, 0, none⟩) 32 32, .int .u64 (u : Int), .int .i64 p, .int .i64 (nDigits u : Int)] w fun e w' =>
      e = .returned (.tuple #[.int .i64 ((nDigits u : Int) + p), .int .i64 (nzd (decDigits u) : Int)]) ∧ BufHas w' g (decDigits u) ∧ w.grownBy w' (some g) := by
  have hfmt := Tryz.internal_strconv_formatBase10 g 0 32 u (Array.replicate (nDigits u) 0) w hH (by rw [Array.size_replicate]; exact lt_pow_nDigits u) hu (by rw [Array.size_replicate]; omega)
  rw [Array.size_replicate] at hfmt
  have hlen := decDigits_length u
  obtain ⟨n, hnn⟩ : ∃ n, nDigits u = n := ⟨_, rfl⟩
  obtain ⟨ds, hds⟩ : ∃ ds, decDigits u = ds := ⟨_, rfl⟩
  have HFIN : Hid (∀ (k v' : Nat) (dk : Array UInt8), FmtInv n u 0 v' dk → BufHas ((putRow enc8 w g 0 dk).drewN k) g ds ∧ w.grownBy ((putRow enc8 w g 0 dk).drewN k) (some g)) := Lib.hid fun k v' dk hF => by
    refine ⟨fun j hj => ?_, only_drewN (only_putRow w g 0 dk) k⟩
    subst hnn
    subst hds
    have h1 := row_is_numeral hF j hj
    rw [h1]
    have h2 := cell?_putRow enc8 w g 0 _ dk hH (by rw [hF.size, Array.size_replicate]) j (by rw [hF.size]; omega)
    rw [Nat.zero_add] at h2
    exact h2
  rw [hnn] at hfmt hlen ⊢
  rw [hds] at hlen ⊢
  have HF := Lib.hid hfmt
  have hn20 : n ≤ 20 := by omega
  have HDS := Lib.hid hds
  clear hfmt hH hds hn
  go_enter Tryz.func142, Tryz.ntmps142
  go_wp2_with fail
  refine HF.out.mono ?_
  rintro e w' ⟨rfl, k, v', dk, rfl, hF⟩
  obtain ⟨hb, hg⟩ := HFIN.out k v' dk hF
  generalize (putRow (fun (b : UInt8) => Value.int .u8 (b.toNat : Int)) w g 0 dk).drewN k = W at hb hg ⊢
  have HG := Lib.hid hg
  have HBF := Lib.hid hb
  clear hF hb hg HFIN HF
  go_wp2
  go_loop [3] (fun v => ∃ k : Nat, k ≤ n ∧ v = .int .i64 (k : Int) ∧ nzd (ds.take k) = nzd ds) (fun v => natV v)
  case atStart => exact ⟨n, Nat.le_refl _, rfl, by rw [List.take_of_length_le (by omega)]⟩
  case round =>
    obtain ⟨k, hk, rfl, ht⟩ := hrel
    have HT := Lib.hid ht
    clear ht
    rcases k with _ | j
    · go_wp2
      go_ret2
      have h0 : nzd ds = 0 := by rw [← HT.out]; rfl
      rw [h0]
      exact ⟨rfl, HBF.out, HG.out⟩
    · have hjl : j < ds.length := by omega
      have hc := HBF.out j hjl
      by_cases hz : ds[j] = 48
      · have h1 := Lib.hid (nzd_take_zero ds j hjl hz)
        rw [hz] at hc
        have hc2 : W.cell? ⟨g, j, none⟩ = some (.int .u8 48) := hc
        clear hc hz
        go_wp2
        go_round
        case rel => exact ⟨j, by omega, by go_num, by rw [← h1.out, HT.out]⟩
        case measure => simp [natV]
      · have h1 := Lib.hid (nzd_take_pos ds j hjl hz)
        have hne : (((ds[j].toNat : Nat) : Int) == 48) = false := by
          rw [beq_eq_false_iff_ne]
          intro h
          exact hz (UInt8.toNat_inj.1 (by have h48 : (48 : UInt8).toNat = 48 := rfl; omega))
        generalize ds[j].toNat = b at hc hne
        clear hz
        go_wp2
        go_ret2
        have h0 : nzd ds = j + 1 := by rw [← HT.out, h1.out]
        rw [h0]
        exact ⟨rfl, HBF.out, HG.out⟩

end LM
end Go.Proofs.YtpoojlnndgoeoaaGreatDoor

namespace Go.Proofs.YtpoojlnndgoeoaaGreatDoor
open Go Go.Shelf Go.RowKit Go.Sort Go.Lib
namespace LM
set_option linter.unusedVariables false

theorem u8_info : (Tryz.prog.info? 5).map (fun i => (i.zero, i.size, i.bytes)) = some (some (.int .u8 0), 1, 1) := by kernel_rfl
theorem info_parts8 {P : Program} {t : TypeId} {z : Value} {s b : Nat} (h : (P.info? t).map (fun i => (i.zero, i.size, i.bytes)) = some (some z, s, b)) : ∃ i, P.info? t = some i ∧ i.zero = some z ∧ i.size = s ∧ i.bytes = b := by
  obtain ⟨i, hi, he⟩ := Option.map_eq_some_iff.1 h
  simp only [Prod.mk.injEq] at he
  exact ⟨i, hi, he.1, he.2.1, he.2.2⟩

def signB (neg : Bool) : List UInt8 := if neg then [45] else []
theorem enc_of (n : Nat) (h : n < 256) : enc8 (UInt8.ofNat n) = .int .u8 (n : Int) := by
  show Value.int .u8 ((UInt8.ofNat n).toNat : Int) = _
  rw [show (UInt8.ofNat n).toNat = n from by simp; omega]

/-- the digits stand in a block of their own -/
def Aside (w : World) (g : Nat) (ds : List UInt8) (v : Value) : Prop := ds = [] ∨ (g < w.heap.size ∧ v.ownBlock ≠ some g ∧ BufHas w g ds)
/-- a buffer of these bytes, from a block on, beside the digits -/
def OB (B : Nat) (W0 : World) (g : Nat) (ds : List UInt8) (v : Value) (bs : List UInt8) (w : World) : Prop :=
  w.ownsRow B 5 1 v bs.length (bs.map enc8) ∧ Below B W0 w ∧ B ≤ w.heap.size ∧ Aside w g ds v

theorem BufHas.grown {w w' : World} {g : Nat} {ds : List UInt8} {row : Option Nat} (h : BufHas w g ds) (hg : w.grownBy w' row) (hl : g < w.heap.size) (hr : some g ≠ row) : BufHas w' g ds := fun j hj => by
  rw [← h j hj]
  exact World.cell?_of_block (a := ⟨g, j, none⟩) (hg.block g hl hr)

theorem OB.alloc {B : Nat} {W0 : World} {g : Nat} {ds : List UInt8} {v : Value} {bs : List UInt8} {w : World} (h : OB B W0 g ds v bs w) (o : Obj) : OB B W0 g ds v bs (w.alloc o) := by
  obtain ⟨h1, h2, h3, h4⟩ := h
  refine ⟨h1.alloc o, h2.alloc h3 o, Nat.le_trans h3 (by simp), ?_⟩
  rcases h4 with h4 | ⟨a, b, c⟩
  · exact .inl h4
  · exact .inr ⟨by simp; omega, b, c.grown (World.grownBy_alloc w o none) a (by simp)⟩
theorem OB.drewN {B : Nat} {W0 : World} {g : Nat} {ds : List UInt8} {v : Value} {bs : List UInt8} {w : World} (h : OB B W0 g ds v bs w) (n : Nat) : OB B W0 g ds v bs (w.drewN n) := by
  obtain ⟨h1, h2, h3, h4⟩ := h
  exact ⟨h1, below_drewN h2 n, h3, h4⟩

section
variable {P : Program}
/-- an append of some bytes: to the room that there is, or to a new block -/
theorem run_append_ob (t ty e : TypeId) (i : TypeInfo) (ht : P.underlying t = some (.slice e)) (hi : P.info? e = some i) (hz : i.zero = some (.int .u8 0)) (hsize : i.size = 1) (hby : i.bytes = 1)
    (base : Nat) (w : World) (v : Value) (n : Nat) (xs : List Value) (hown : w.ownsRow base e 1 v n xs) (ad : Addr) (m c : Nat) (news : List Value) (hl : news.length = m) (hnews : ∀ j u, news[j]? = some u → w.cell? (ad.add j) = some u) (h1 : ∀ u ∈ news, u.oneCell' = true)
    (hlen : n + m ≤ 1000000) (hbase : base ≤ w.heap.size) :
    ∃ v' w', (Builtin.append_ #[t, t] ty #[v, .slice (some ad) m c]).run P w = .ok v' w' ∧ w'.ownsRow base e 1 v' (n + m) (xs ++ news) ∧ w.grownBy w' v.ownBlock ∧ (v'.ownBlock = v.ownBlock ∨ v'.ownBlock = some w.heap.size) := by
  have hml : n + m ≤ maxLen := by unfold maxLen; omega
  obtain ⟨v', w', hr, ho, hg, hnil⟩ := run_append_own (P := P) w base t ty e i (.int .u8 0) 1 1 ht hi hz hsize hby rfl (by decide) v n xs hown ad m c news (by omega) hnews h1 hml (by omega) hbase
  refine ⟨v', w', hr, ho, hg, ?_⟩
  rcases hown with ⟨hx, ⟨rfl, rfl⟩ | ⟨g, cap, cur, rfl, hbg, hgc, hnc, hcm, hcs, htake⟩⟩
  · by_cases hm : m = 0
    · rw [hnil.2 ⟨rfl, hm⟩]
      exact .inl rfl
    · have h2 := run_append_nil (P := P) w t ty e i (.int .u8 0) ht hi hz ad m c news (by rw [hsize]; omega) hnews (by omega) (by omega) (by rw [hby]; omega)
      rw [h2] at hr
      injection hr with e1 e2
      rw [← e1]
      exact .inr rfl
  · by_cases hroom : n + m ≤ cap
    · have h2 := run_append_room (P := P) w t ty e i ht hi g n cap cur hgc ad m c news (by rw [hsize]; omega) hnews h1 hroom (by rw [hsize]; omega)
      rw [h2] at hr
      injection hr with e1 e2
      rw [← e1]
      exact .inl rfl
    · have holds : ∀ j u, xs[j]? = some u → w.cell? ((⟨g, 0, none⟩ : Addr).add j) = some u :=
        World.ownsRow.cells (base := base) (e := e) (size := 1) (v := .slice (some ⟨g, 0, none⟩) n cap) (n := n) ⟨hx, .inr ⟨g, cap, cur, rfl, hbg, hgc, hnc, hcm, hcs, htake⟩⟩ rfl
      have h2 := run_append_grow (P := P) w t ty e i (.int .u8 0) ht hi hz ⟨g, 0, none⟩ n cap xs (by rw [hsize]; omega) holds ad m c news (by rw [hsize]; omega) hnews (by omega) (by omega) (growslice_fits (by omega) (by rw [hby]; omega))
      rw [h2] at hr
      injection hr with e1 e2
      rw [← e1]
      exact .inr rfl

theorem wp_append_ob {o : Oper} {a : Act} {w : World} {K : Act → World → Prop} {Q : Exit → Act → World → Prop} (s x : Operand) (t e : TypeId)
    (ho : o.op = .call { callee := .builtin .append, args := #[s, x], argTypes := #[t, t] })
    (i : TypeInfo) (ht : P.underlying t = some (.slice e)) (hi : P.info? e = some i) (hz : i.zero = some (.int .u8 0)) (hsize : i.size = 1) (hby : i.bytes = 1)
    (base : Nat) (v : Value) (n : Nat) (xs : List Value) (hs : a.eval s = v) (hown : w.ownsRow base e 1 v n xs) (ad : Addr) (m c : Nat) (news : List Value) (hx : a.eval x = .slice (some ad) m c) (hl : news.length = m)
    (hnews : ∀ j u, news[j]? = some u → w.cell? (ad.add j) = some u) (h1 : ∀ u ∈ news, u.oneCell' = true) (hlen : n + m ≤ 1000000) (hbase : base ≤ w.heap.size)
    (h : ∀ v' w', w'.ownsRow base e 1 v' (n + m) (xs ++ news) → w.grownBy w' v.ownBlock → (v'.ownBlock = v.ownBlock ∨ v'.ownBlock = some w.heap.size) → K (a.put o.dst v') w') : o.wp P a w K Q := by
  obtain ⟨v', w', hr, h2, h3, h4⟩ := run_append_ob (P := P) t o.type e i ht hi hz hsize hby base w v n xs hown ad m c news hl hnews h1 hlen hbase
  unfold Oper.wp execOp
  simp only [ho, resolve, invoke, builtin, Sem.run_bind, Sem.run_pure, Result.andThen_ok, List.map_toArray, List.map_cons, List.map_nil, hs, hx, hr]
  exact h v' w' h2 h3 h4
end

theorem OB.next {B : Nat} {W0 : World} {g : Nat} {ds : List UInt8} {v v' : Value} {bs nb : List UInt8} {w w' : World} (h : OB B W0 g ds v bs w) (ho : w'.ownsRow B 5 1 v' (bs.length + nb.length) (bs.map enc8 ++ nb.map enc8))
    (hg : w.grownBy w' v.ownBlock) (hv : v'.ownBlock = v.ownBlock ∨ v'.ownBlock = some w.heap.size) : OB B W0 g ds v' (bs ++ nb) w' := by
  obtain ⟨h1, h2, h3, h4⟩ := h
  refine ⟨by rw [List.map_append, List.length_append]; exact ho, h2.grown hg h3 (fun k hk => (h1.lt k hk).1), Nat.le_trans h3 hg.size, ?_⟩
  rcases h4 with h4 | ⟨a, b, c⟩
  · exact .inl h4
  · refine .inr ⟨Nat.lt_of_lt_of_le a hg.size, ?_, c.grown hg a (fun e => b e.symm)⟩
    rcases hv with hv | hv
    · rw [hv]; exact b
    · rw [hv]; intro e; injection e with e; omega

section
variable {P : Program}
/-- some bytes that the statement has just laid -/
theorem wpList_bytes {ops : Array Oper} {rest : List Oper} {o : Oper} {a : Act} {Q : Exit → Act → World → Prop} (hgd : o.guard = none) (s x : Operand) (t : TypeId)
    (ho : o.op = .call { callee := .builtin .append, args := #[s, x], argTypes := #[t, t] })
    (i : TypeInfo) (ht : P.underlying t = some (.slice 5)) (hi : P.info? 5 = some i) (hz : i.zero = some (.int .u8 0)) (hsize : i.size = 1) (hby : i.bytes = 1)
    {B : Nat} {W0 : World} {g : Nat} {ds : List UInt8} {v : Value} {bs : List UInt8} {w0 : World} (nb : List UInt8) (cells : Array Value) (m : Nat) (hc : cells = (nb.map enc8).toArray) (hm : nb.length = m) (hs : a.eval s = v) (hb : OB B W0 g ds v bs w0)
    (hx : a.eval x = .slice (some ⟨w0.heap.size, 0, none⟩) m m) (hlen : bs.length + m ≤ 1000000)
    (h : ∀ v' w', OB B W0 g ds v' (bs ++ nb) w' → wpList P ops Q rest (a.put o.dst v') w') : wpList P ops Q (o :: rest) a (w0.alloc (.cells cells 5)) := by
  subst hc
  subst hm
  have hb' := hb.alloc (.cells (nb.map enc8).toArray 5)
  refine wpList_plain hgd fun K hK => wp_append_ob s x t 5 ho i ht hi hz hsize hby B v bs.length (bs.map enc8) hs hb'.1 ⟨w0.heap.size, 0, none⟩ nb.length nb.length (nb.map enc8) hx (by simp) ?_ ?_ hlen hb'.2.2.1 fun v' w' h2 h3 h4 => hK _ _ (h v' w' (hb'.next h2 h3 h4))
  · intro j u hj
    rw [Lib.add_plain, World.cell?_alloc_new]
    simpa using hj
  · intro u hu
    obtain ⟨b, _, rfl⟩ := List.mem_map.1 hu
    rfl
/-- some of the digits -/
theorem wpList_digits {ops : Array Oper} {rest : List Oper} {o : Oper} {a : Act} {Q : Exit → Act → World → Prop} (hgd : o.guard = none) (s x : Operand) (t : TypeId)
    (ho : o.op = .call { callee := .builtin .append, args := #[s, x], argTypes := #[t, t] })
    (i : TypeInfo) (ht : P.underlying t = some (.slice 5)) (hi : P.info? 5 = some i) (hz : i.zero = some (.int .u8 0)) (hsize : i.size = 1) (hby : i.bytes = 1)
    {B : Nat} {W0 : World} {g : Nat} {ds : List UInt8} {v : Value} {bs : List UInt8} {w : World} (k m c : Nat) (hkm : k + m ≤ ds.length) (hs : a.eval s = v) (hb : OB B W0 g ds v bs w)
    (hx : a.eval x = .slice (some ⟨g, k, none⟩) m c) (hlen : bs.length + m ≤ 1000000)
    (h : ∀ v' w', OB B W0 g ds v' (bs ++ (ds.drop k).take m) w' → wpList P ops Q rest (a.put o.dst v') w') : wpList P ops Q (o :: rest) a w := by
  have hl : ((ds.drop k).take m).length = m := by rw [List.length_take, List.length_drop]; omega
  refine wpList_plain hgd fun K hK => wp_append_ob s x t 5 ho i ht hi hz hsize hby B v bs.length (bs.map enc8) hs hb.1 ⟨g, k, none⟩ m c (((ds.drop k).take m).map enc8) hx (by rw [List.length_map, hl]) ?_ ?_ hlen hb.2.2.1 fun v' w' h2 h3 h4 => hK _ _ (h v' w' (hb.next (by rw [hl]; exact h2) h3 h4))
  · intro j u hj
    have hjl : j < m := by
      have := (List.getElem?_eq_some_iff.1 hj).1
      rw [List.length_map, hl] at this
      exact this
    rcases hb.2.2.2 with hd | ⟨_, _, hbh⟩
    · rw [hd] at hkm
      simp at hkm
      omega
    · rw [Lib.add_plain, hbh (k + j) (by omega), ← hj, List.getElem?_map, List.getElem?_take, if_pos hjl, List.getElem?_drop, List.getElem?_eq_getElem (by omega : k + j < ds.length)]
      rfl
  · intro u hu
    obtain ⟨b, _, rfl⟩ := List.mem_map.1 hu
    rfl
end

end LM
end Go.Proofs.YtpoojlnndgoeoaaGreatDoor
