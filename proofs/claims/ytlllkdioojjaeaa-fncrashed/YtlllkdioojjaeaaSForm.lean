/-
 Contracts of chapter 14's model: an op's form, the place of a file.
-/
import Derived.Test.YtlllkdioojjaeaaSDisk
import Derived.Test.YtlllkdioojjaeaaStrsX
import Derived.OneCell
namespace Go.Proofs.Ytlllkdioojjaeaa
open Go.RowKit
set_option linter.unusedVariables false
theorem four_cells {w:World} {b:Nat} {u v x y:Value} {t:TypeId} (h:w.heap[b]? = some (.cells #[u,v,x,y] t (0,0))) :
 w.cell? ⟨b,0,none⟩=some u∧w.cell? ⟨b,1,none⟩=some v∧w.cell? ⟨b,2,none⟩=some x∧w.cell? ⟨b,3,none⟩=some y∧∀ j,w.frozen? ⟨b,j,none⟩=false:=by
 refine⟨?_,?_,?_,?_,fun j=>frozen_of_row w b j _ t h⟩ <;> simp only[World.cell?,h] <;> rfl
set_option maxRecDepth 100000 in
theorem spec_in (n:Int) (w:World) :
 Calls Try.prog 62 #[.int .i64 n,.int .i64 1,.int .i64 3] w fun e w'=>e=.returned (.bool (decide (1≤n∧n≤3)))∧w'=w:=by
 by_cases h1:1≤n
 · by_cases h2:n≤3
   · have HR:Hid (decide (1≤n∧n≤3)=true):=decide_eq_true ⟨h1,h2⟩
     rw[HR.out]
     go_enter Try.func62,Try.ntmps62
     go_wp2
     go_ret
     exact⟨rfl,rfl⟩
   · have HR:Hid (decide (1≤n∧n≤3)=false):=decide_eq_false (fun h=>h2 h.2)
     rw[HR.out]
     go_enter Try.func62,Try.ntmps62
     go_wp2
     go_ret
     exact⟨rfl,rfl⟩
 · have HR:Hid (decide (1≤n∧n≤3)=false):=decide_eq_false (fun h=>h1 h.1)
   rw[HR.out]
   go_enter Try.func62,Try.ntmps62
   go_wp2
   go_ret
   exact⟨rfl,rfl⟩
def opV (o:DOpL):Array Value:=#[.int .i64 o.k,.string ⟨o.n.toArray⟩,.string ⟨o.t.toArray⟩,.string ⟨o.d.toArray⟩]
set_option maxRecDepth 100000 in
set_option maxHeartbeats 1000000 in
theorem spec_form (k:Int) (n t d:List UInt8) (w:World) (hn:n.length≤16777216) (ht:t.length≤16777216) (hd:d.length≤16777216) :
 Calls Try.prog 43 #[.agg #[.int .i64 k,.string ⟨n.toArray⟩,.string ⟨t.toArray⟩,.string ⟨d.toArray⟩]] w fun e w'=>e=.returned (.bool (formOk ⟨k,n,t,d⟩))∧Below w.heap.size w w':=by
 have B0:Below w.heap.size w (w.alloc (.cells #[.int .i64 k,.string ⟨n.toArray⟩,.string ⟨t.toArray⟩,.string ⟨d.toArray⟩] 40)):=(Below.refl _ _).alloc (Nat.le_refl _) _
 obtain⟨p0,p1,p2,p3,_⟩:=four_cells (heap_alloc_new w (.cells #[.int .i64 k,.string ⟨n.toArray⟩,.string ⟨t.toArray⟩,.string ⟨d.toArray⟩] 40))
 have KI:=fun W=>spec_in k W
 have KN:=fun W=>spec_name n W hn
 have KT:=fun W=>spec_name t W ht
 have HF:Hid (formOk ⟨k,n,t,d⟩=(decide (1≤k∧k≤3) && (nameOk n && (if k=2 then nameOk t && d.isEmpty else t.isEmpty && (decide (k=1) || d.isEmpty))))):=rfl
 obtain⟨ix,hix⟩:∃ ix,ix=decide (1≤k∧k≤3):=⟨_,rfl⟩
 obtain⟨nx,hnx⟩:∃ nx,nx=nameOk n:=⟨_,rfl⟩
 obtain⟨tx,htx⟩:∃ tx,tx=nameOk t:=⟨_,rfl⟩
 obtain⟨te,hte⟩:∃ te,t.isEmpty=te:=⟨_,rfl⟩
 obtain⟨de,hde⟩:∃ de,d.isEmpty=de:=⟨_,rfl⟩
 rw[←hix] at KI HF
 rw[←hnx] at KN HF
 rw[←htx] at KT HF
 rw[hte,hde] at HF
 obtain⟨fo,hfo⟩:∃ fo,fo=formOk ⟨k,n,t,d⟩:=⟨_,rfl⟩
 rw[←hfo] at HF ⊢
 clear hix hnx htx hfo
 by_cases hk2:k=2
 · subst hk2
   have HZ:=HF.out
   rw[if_pos rfl] at HZ
   have HZZ:Hid (fo=_):=HZ
   clear HZ HF
   cases ix <;> cases nx <;> cases tx <;> cases de
   all_goals
    go_enter Try.func43,Try.ntmps43
    go_wp2_with (first | (go_at_call 62;refine (KI _).mono ?_;rintro e w1 ⟨rfl,rfl⟩) | (go_at_call 75;first | (with_reducible refine (KN _).mono ?_;rintro e w1 ⟨rfl,rfl⟩) | (with_reducible refine (KT _).mono ?_;rintro e w1 ⟨rfl,rfl⟩)))
    first | (go_quiet (fail);go_wp2) | skip
    go_ret
    obtain rfl:=HZZ.out
    exact⟨rfl,by first | exact B0 | exact below_dr B0⟩
 · have HZ:=HF.out
   rw[if_neg hk2] at HZ
   have hk2b:(k == 2)=false:=by rw[beq_eq_false_iff_ne];exact hk2
   by_cases hk1:k=1
   · subst hk1
     have HZZ:Hid (fo=(ix && (nx && te))):=by rw[Hid,HZ];cases te <;> rfl
     clear HZ HF
     cases ix <;> cases nx <;> cases te
     all_goals
      go_enter Try.func43,Try.ntmps43
      go_wp2_with (first | (go_at_call 62;refine (KI _).mono ?_;rintro e w1 ⟨rfl,rfl⟩) | (go_at_call 75;first | (with_reducible refine (KN _).mono ?_;rintro e w1 ⟨rfl,rfl⟩) | (with_reducible refine (KT _).mono ?_;rintro e w1 ⟨rfl,rfl⟩)))
      first | (go_quiet (fail);go_wp2) | skip
      go_ret
      obtain rfl:=HZZ.out
      exact⟨rfl,by first | exact B0 | exact below_dr B0⟩
   · rw[decide_eq_false hk1] at HZ
     have hk1b:(k == 1)=false:=by rw[beq_eq_false_iff_ne];exact hk1
     have HZZ:Hid (fo=_):=HZ
     clear HZ HF
     cases ix <;> cases nx <;> cases te <;> cases de
     all_goals
      go_enter Try.func43,Try.ntmps43
      go_wp2_with (first | (go_at_call 62;refine (KI _).mono ?_;rintro e w1 ⟨rfl,rfl⟩) | (go_at_call 75;first | (with_reducible refine (KN _).mono ?_;rintro e w1 ⟨rfl,rfl⟩) | (with_reducible refine (KT _).mono ?_;rintro e w1 ⟨rfl,rfl⟩)))
      first | (go_quiet (fail);go_wp2) | skip
      go_ret
      obtain rfl:=HZZ.out
      exact⟨rfl,by first | exact B0 | exact below_dr B0⟩
def atF (fs:List PairL) (n:List UInt8):Int:=match fs.findIdx? (fun p=>p.1 == n) with
 | some j=>(j:Int)
 | none => -1
theorem atF_hit (fs:List PairL) (n:List UInt8) (j:Nat) (hj:j<fs.length) (hk:keyAt fs j=n) (ho:∀ q,q<j→keyAt fs q≠n):atF fs n=(j:Int):=by
 have:fs.findIdx? (fun p=>p.1 == n)=some j:=by
  rw[List.findIdx?_eq_some_iff_getElem]
  refine⟨hj,by rw[keyAt_lt fs j hj] at hk;simp[hk],fun q hq=>?_⟩
  have:=ho q hq
  rw[keyAt_lt fs q (by omega)] at this
  simpa using this
 rw[atF,this]
theorem atF_none (fs:List PairL) (n:List UInt8) (ho:∀ q,q<fs.length→keyAt fs q≠n):atF fs n = -1:=by
 have:fs.findIdx? (fun p=>p.1 == n)=none:=by
  rw[List.findIdx?_eq_none_iff]
  intro p hp
  obtain⟨q,hq,rfl⟩:=List.getElem_of_mem hp
  have:=ho q hq
  rw[keyAt_lt fs q hq] at this
  simpa using this
 rw[atF,this]
set_option maxRecDepth 100000 in
set_option maxHeartbeats 400000 in
theorem spec_at (a : Option Addr) (cap : Nat) (ps : List PairL) (h : List UInt8) (w : World) (hl : ps.length ≤ 16777216) (hs : IsPairs w a ps) :
 Calls Try.prog 64 #[.slice a ps.length cap,.string ⟨h.toArray⟩] w fun e w'=>e=.returned (.int .i64 (atF ps h))∧Below w.heap.size w w':=by
 rcases hs with rfl | ⟨b,off,rfl,hc⟩
 · go_enter Try.func64,Try.ntmps64
   go_wp2
   refine wp_loop_rounds 1 ?_
   rw[rounds_succ]
   go_wp2
   go_ret
   exact⟨rfl,Below.refl _ _⟩
 · have hc' : ∀ j, j < ps.length → w.cell? ⟨b, off + j * 2, none⟩ = some (.string ⟨(keyAt ps j).toArray⟩) := fun j h => by rw [keyAt_lt ps j h]; exact (hc j h).1
   obtain⟨r,hr⟩:∃ r,r=atF ps h:=⟨_,rfl⟩
   have HHIT:Hid (∀ j,j<ps.length→keyAt ps j=h→(∀ q,q<j→keyAt ps q≠h)→r=(j:Int)):=fun j hj hk ho=>by rw[hr];exact atF_hit ps h j hj hk ho
   have HNO:Hid ((∀ q,q<ps.length→keyAt ps q≠h)→r = -1):=fun ho=>by rw[hr];exact atF_none ps h ho
   rw[←hr]
   clear hc hr
   go_enter Try.func64,Try.ntmps64
   go_wp2
   go_loopw [5] (fun i wr=>∃ j:Nat,j≤ps.length∧i=.int .i64 (j:Int)∧Hid (∀ q,q<j→keyAt ps q≠h)∧Below w.heap.size w wr) (fun i _=>ps.length - (intOf i).toNat)
   case atStart=>exact⟨0,Nat.zero_le _,rfl,fun k hk=>by omega,Below.refl _ _⟩
   case round =>
    obtain⟨j,hj,rfl,HA,hbel⟩:=hrel
    have hsz:=hbel.size
    by_cases hlt:j<ps.length
    · have c1':=hc' j hlt
      have c1:=(hbel.cell (p:=⟨b,off+j*2,none⟩) (World.block_lt_of_cell? w _ c1')).trans c1'
      clear c1'
      have hj0:(0:Int)≤(j:Int):=by omega
      have hj1:(j:Int)<(ps.length:Int):=by omega
      have HB:Hid (keyAt ps j=h→r=(j:Int)):=fun e=>HHIT.out j hlt e HA.out
      have HN:Hid (keyAt ps j≠h→∀ k,k<j+1→keyAt ps k≠h):=fun e k hk=>by
       by_cases ek:k=j
       · rw[ek];exact e
       · exact HA.out k (by omega)
      obtain⟨x,hx⟩:∃ x,x=keyAt ps j:=⟨_,rfl⟩
      rw[←hx] at c1 HB HN
      clear hc' hx HA HHIT HNO
      by_cases he:x=h
      · subst he
        have HR:Hid (r=(j:Int)):=HB.out rfl
        clear HB HN
        go_wp2
        first | (go_quiet (fail);go_wp2) | skip
        go_ret
        obtain rfl:=HR.out
        exact⟨rfl,by first | exact hbel | exact below_dr hbel⟩
      · have heb:(x == h)=false:=by rw[beq_eq_false_iff_ne];exact he
        go_wp2
        first | (go_quiet (fail);go_wp2) | skip
        go_roundw
        case rel=>exact⟨j+1,by omega,by go_num,HN.out he,by first | exact hbel | exact below_dr hbel⟩
        case measure=>simp[intOf];omega
    · have hjl:j=ps.length:=by omega
      subst hjl
      have HR:Hid (r = -1):=HNO.out HA.out
      clear hc'
      go_wp2
      go_ret
      obtain rfl:=HR.out
      exact⟨rfl,hbel⟩
end Go.Proofs.Ytlllkdioojjaeaa
