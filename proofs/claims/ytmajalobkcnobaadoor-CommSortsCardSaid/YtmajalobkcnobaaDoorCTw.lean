/- The targets of a list: the walk. No condition but the sort's. -/
import Derived.Test.YtmajalobkcnobaaDoorCTg
import Derived.Maps.AppendAt
namespace Go.Proofs.YtmajalobkcnobaaDoor
open Go.RowKit Go.Sort
set_option linter.unusedVariables false
set_option linter.unusedSimpArgs false
set_option maxRecDepth 100000

theorem kind_eq (k : Nat) (e : Nat → Int) (h : kd (e 0) (e 1) = k) (w : World) (hK : KI w) :
    Calls Tryd.prog 18 #[.agg #[.int .u8 (e 0), .int .u8 (e 1), .int .u8 (e 2), .int .u8 (e 3), .int .u8 (e 4), .int .u8 (e 5), .int .u8 (e 6), .int .u8 (e 7)]] w fun r w' => r = .returned (.int .i64 (k : Nat)) ∧ Below w.heap.size w w' := by
  rw [← h]; exact kind_is e w hK

theorem below_putRow {B : Nat} {w0 w : World} (h : Below B w0 w) {g : Nat} (hg : B ≤ g) (n off : Nat) (d : Array Int) : Below B w0 (putRow (Value.int .u32) (Sort.ahead w n) g off d) :=
  h.trans ⟨rfl, rfl, rfl, by simp, fun k hk => by
    have hne : g ≠ k := by omega
    simp [putRow, mapBlock, Array.getElem?_modify, hne]⟩
theorem compact_le (d : Array Int) (m : Nat) : (Lib.compactUpTo d m).length ≤ m := by
  unfold Lib.compactUpTo
  rw [List.length_map]
  exact Nat.le_trans (List.length_filter_le _ _) (by simp)
theorem useg_put {w : World} {g cap q : Nat} {d : Array Int} {ys : List Int} (hH : Holds (Value.int .u32) w g 0 d) (hg : g < w.heap.size) (hl : ys.length ≤ d.size) (hc : d.size ≤ cap) :
    USeg (putRow (Value.int .u32) (Sort.ahead w q) g 0 (ys ++ List.replicate (d.size - ys.length) 0).toArray) (.slice (some ⟨g, 0, none⟩) ys.length cap) ys := by
  refine ⟨_, _, rfl, by omega, fun i hi => ⟨g, 0, rfl, by simpa using hg, ?_⟩⟩
  have hs : (ys ++ List.replicate (d.size - ys.length) (0 : Int)).toArray.size = d.size := by simp; omega
  rw [cell?_putRow _ _ _ _ d _ (holds_ahead _ _ _ _ _ _ hH) hs i (by omega)]
  congr 2
  have hi2 : i < (ys ++ List.replicate (d.size - ys.length) (0 : Int)).length := by simp; omega
  rw [getElem!_pos _ i (by simpa using hi2)]
  simp [List.getD, hi]

/-- What Targets returns. -/
def TgPost (E : List (Nat → Int)) (w : World) (r : Ending) (w' : World) : Prop := ∃ (u : Value) (d : Array Int), r = .returned u ∧ Srt (nums E).toArray d ∧ USeg w' u (Lib.compactUpTo d d.size) ∧ Below w.heap.size w w'

set_option maxHeartbeats 4000000 in
theorem targets_list (N : Nat) (hS : SortOK N) (E : List (Nat → Int)) (hE : E.length ≤ 1000000) (hNm : (nums E).length ≤ N) (hO : ∀ e ∈ E, O8 e) (v : Value) (w : World) (hv : CSeg w v E) (hK : KI w) :
    Calls Tryd.prog 41 #[v] w (TgPost E w) := by
  obtain ⟨a, c, rfl, hc, hx⟩ := hv
  have HX := Lib.hid hx
  clear hx
  go_enter Tryd.func41, Tryd.ntmps41
  go_wp2_with fail
  go_loopw [3, 9] (fun vl vi wr => ∃ (i : Nat), i ≤ E.length ∧ vi = .int .i64 i ∧ Nu w.heap.size wr vl (nums (E.take i)) ∧ Below w.heap.size w wr) (fun _ vi _ => E.length - (intOf vi).toNat)
  case atStart => exact ⟨0, Nat.zero_le _, rfl, Nu.nil _ _, Below.refl _ _⟩
  case round =>
    obtain ⟨i, hi, rfl, hl, hB⟩ := hrel
    by_cases hlt : i < E.length
    · have hil : (i : Int) < E.length := by omega
      obtain ⟨e, he⟩ : ∃ e, E[i]? = some e := ⟨E[i], by simp [hlt]⟩
      obtain ⟨b, o, rfl, hbw, hr0⟩ := HX.out i e he
      have hr : wr.rangeAt b (o + i * 8) [.int .u8 (e 0), .int .u8 (e 1), .int .u8 (e 2), .int .u8 (e 3), .int .u8 (e 4), .int .u8 (e 5), .int .u8 (e 6), .int .u8 (e 7)] := fun j u hu => (hB.cell (p := ⟨b, o + i * 8 + j, none⟩) hbw).trans (hr0 j u hu)
      have hOe := hO e (List.mem_of_getElem? he)
      have hKr := hK.below hB hK.lt
      have hts := ctake_step E i e he
      have HN := Lib.hid (show nums (E.take (i + 1)) = nums (E.take i) ++ (if isT e = true then [ct e 6 % 4294967296] else []) by rw [hts, nums_snoc])
      have hnl : (nums (E.take i)).length ≤ i := Nat.le_trans (nums_le _) (by rw [List.length_take]; omega)
      have BW : Below wr.heap.size wr (wr.alloc (.cells #[.int .u8 (e 0), .int .u8 (e 1), .int .u8 (e 2), .int .u8 (e 3), .int .u8 (e 4), .int .u8 (e 5), .int .u8 (e 6), .int .u8 (e 7)] 24)) := (Below.refl _ _).alloc (Nat.le_refl _) _
      have c0 := (ct_bd hOe 6 (Nat.le_refl _)).1
      have c1 := ct_lt hOe 6 (Nat.le_refl _)
      clear hts hr0 he
      by_cases h1 : kd (e 0) (e 1) = 1
      · by_cases h2 : ct e 6 / 4294967296 = 65000
        · have ht : isT e = true := by simp [isT, h1, h2]
          rw [ht, if_pos rfl] at HN
          have A : (ct e 6 / 4294967296 == 65000) = true := by rw [h2]; rfl
          have H1 := Lib.hid h1
          clear h1 h2 ht
          obtain ⟨i0, hi0, hz0, hz1, hz2⟩ := info_u32
          go_upto_region 4 with fail
          refine wp_region_lit ?_
          iterate 3 go_step
          refine wpList_load_mid rfl 24 (.tmp 11) rfl b (o + i * 8) rfl [.int .u8 (e 0), .int .u8 (e 1), .int .u8 (e 2), .int .u8 (e 3), .int .u8 (e 4), .int .u8 (e 5), .int .u8 (e 6), .int .u8 (e 7)] _ hr Tryd.underlying24 rfl (by kernel_rfl) ?_
          go_wp2_with (go_at_call 70; refine (content_is e hOe _).mono ?_; rintro r w1 ⟨rfl, hb1⟩; have B1 := BW.trans (hb1.mono (by simp)); have x1 := (Bx.new wr e 24).below hb1 (by simp); obtain ⟨y0, y1, y2, y3, y4, y5, y6, y7⟩ := x1)
          go_at_call 18
          refine (kind_eq 1 e H1.out _ (hKr.below B1 hKr.lt)).mono ?_
          rintro r w2 ⟨rfl, hb2⟩
          have B2 := B1.trans (hb2.mono B1.size)
          clear y0 y1 y2 y3 y4 y5 y6 y7 hb1 hb2 hr
          have hl2 := hl.below B2
          have HB3 : w.heap.size ≤ w2.heap.size := Nat.le_trans hB.size B2.size
          go_wp2_with (at_builtin; refine wpList_append_own _ rfl _ _ 50 rfl w.heap.size 28 i0 (.int .u32 0) 1 4 Tryd.underlying50 hi0 hz0 hz1 hz2 rfl (by decide) _ _ _ rfl (World.ownsRow.alloc hl2 _) ⟨w2.heap.size, 0, none⟩ 1 1 [.int .u32 (ct e 6 % 4294967296)] rfl rfl (cell_one_new _ _ _) (fun y hy => by simp at hy; subst hy; rfl) (by unfold maxLen; omega) (by omega) (by simp; omega) ?_; intro v' w3 hown' hgrow3 hnil3)
          go_roundw
          case rel =>
            refine ⟨i + 1, by omega, by go_num, ?_, ?_⟩
            · rw [HN.out]
              unfold Nu
              rw [List.length_append, List.map_append]
              exact hown'
            · exact ((hB.trans (B2.mono hB.size)).alloc HB3 _).grown hgrow3 (by simp; omega) (fun q hq => (World.ownsRow.lt hl2 q hq).1)
          case measure => simp [intOf]; omega
        · have ht : isT e = false := by simp [isT, h2]
          rw [ht, if_neg (by simp), List.append_nil] at HN
          have A : (ct e 6 / 4294967296 == 65000) = false := by rw [beq_eq_false_iff_ne]; exact h2
          have H1 := Lib.hid h1
          clear h1 h2 ht
          go_upto_region 4 with fail
          refine wp_region_lit ?_
          iterate 3 go_step
          refine wpList_load_mid rfl 24 (.tmp 11) rfl b (o + i * 8) rfl [.int .u8 (e 0), .int .u8 (e 1), .int .u8 (e 2), .int .u8 (e 3), .int .u8 (e 4), .int .u8 (e 5), .int .u8 (e 6), .int .u8 (e 7)] _ hr Tryd.underlying24 rfl (by kernel_rfl) ?_
          go_wp2_with (go_at_call 70; refine (content_is e hOe _).mono ?_; rintro r w1 ⟨rfl, hb1⟩; have B1 := BW.trans (hb1.mono (by simp)); have x1 := (Bx.new wr e 24).below hb1 (by simp); obtain ⟨y0, y1, y2, y3, y4, y5, y6, y7⟩ := x1)
          go_at_call 18
          refine (kind_eq 1 e H1.out _ (hKr.below B1 hKr.lt)).mono ?_
          rintro r w2 ⟨rfl, hb2⟩
          have B2 := B1.trans (hb2.mono B1.size)
          clear y0 y1 y2 y3 y4 y5 y6 y7 hb1 hb2 hr
          go_wp2
          go_roundw
          case rel => exact ⟨i + 1, by omega, by go_num, by rw [HN.out]; exact hl.below B2, hB.trans (B2.mono hB.size)⟩
          case measure => simp [intOf]; omega
      · have ht : isT e = false := by simp [isT, h1]
        rw [ht, if_neg (by simp), List.append_nil] at HN
        have A : ((kd (e 0) (e 1) : Int) == 1) = false := by rw [beq_eq_false_iff_ne]; omega
        clear h1 ht
        have HK := kind_is e
        generalize kd (e 0) (e 1) = kq at A HK
        have HQ := Lib.hid HK
        clear HK
        go_upto_region 4 with fail
        refine wp_region_lit ?_
        iterate 3 go_step
        refine wpList_load_mid rfl 24 (.tmp 11) rfl b (o + i * 8) rfl [.int .u8 (e 0), .int .u8 (e 1), .int .u8 (e 2), .int .u8 (e 3), .int .u8 (e 4), .int .u8 (e 5), .int .u8 (e 6), .int .u8 (e 7)] _ hr Tryd.underlying24 rfl (by kernel_rfl) ?_
        go_wp2_with (go_at_call 70; refine (content_is e hOe _).mono ?_; rintro r w1 ⟨rfl, hb1⟩; have B1 := BW.trans (hb1.mono (by simp)); have x1 := (Bx.new wr e 24).below hb1 (by simp); obtain ⟨y0, y1, y2, y3, y4, y5, y6, y7⟩ := x1)
        go_at_call 18
        refine (HQ.out _ (hKr.below B1 hKr.lt)).mono ?_
        rintro r w2 ⟨rfl, hb2⟩
        have B2 := B1.trans (hb2.mono B1.size)
        clear y0 y1 y2 y3 y4 y5 y6 y7 hb1 hb2 hr
        go_wp2
        go_roundw
        case rel => exact ⟨i + 1, by omega, by go_num, by rw [HN.out]; exact hl.below B2, hB.trans (B2.mono hB.size)⟩
        case measure => simp [intOf]; omega
    · obtain rfl : i = E.length := by omega
      rw [List.take_length] at hl
      have hnl := nums_le E
      have hN6 : (nums E).toArray.size ≤ N := by simpa using hNm
      have hbig : (nums E).toArray.size ≤ 1000000 := by simp; omega
      rcases hl.holds with ⟨rfl, hnil⟩ | ⟨g, cap, rfl, hcap, hBg, hgw, hH⟩
      · go_wp2_with (first | (go_at_call 71; refine (sort_none_is _ _ _).mono ?_; rintro r w1 ⟨rfl, rfl⟩) | (go_at_call 72; refine (compact_short _ _ _ (by decide) _).mono ?_; rintro r w1 ⟨rfl, rfl⟩))
        go_ret
        refine ⟨_, #[], rfl, ?_, ?_, hB⟩
        · rw [hnil]
          exact ⟨rfl, by simp, by simp⟩
        · exact ⟨_, _, rfl, Nat.le_refl _, fun i hi => absurd hi (by simp [Lib.compactUpTo])⟩
      · have hs := hS g cap (nums E).toArray wr hH hN6
        go_wp2_with fail
        go_at_call 71
        refine hs.mono ?_
        rintro r w1 ⟨rfl, q, d, hd, rfl⟩
        have hH1 : Holds (Value.int .u32) (putRow (Value.int .u32) (Sort.ahead wr q) g 0 d) g 0 d := holds_putRow _ _ _ _ _ _ (holds_ahead _ _ _ _ _ _ hH) hd.1
        have hB1 := below_putRow hB hBg q 0 d
        have hgw1 : g < (putRow (Value.int .u32) (Sort.ahead wr q) g 0 d).heap.size := by simpa using hgw
        generalize putRow (Value.int .u32) (Sort.ahead wr q) g 0 d = w1 at hH1 hB1 hgw1 ⊢
        have HD := Lib.hid hd
        have hds := hd.1
        rw [← hds] at hN6 hbig hcap ⊢
        have hcc := compact_u g cap d w1 hH1 (by omega) hcap
        have HH := Lib.hid hH1
        clear hH1 hH hs hd hds
        go_wp2_with (go_at_call 72; refine hcc.mono ?_; rintro r w2 ⟨rfl, q2, rfl⟩)
        go_ret
        exact ⟨_, d, rfl, HD.out, useg_put HH.out hgw1 (compact_le _ _) hcap, below_putRow hB1 hBg _ _ _⟩
end Go.Proofs.YtmajalobkcnobaaDoor
