/-
 Texts that are laid as one: MathOp, OpS, OpM, BatchS, Open9, OpOk, BatOk.
-/
import Derived.Test.YtiadimhoolekbaaGreatDoorPairs
import Derived.Lib.SmallJoins
namespace Go.Proofs.YtiadimhoolekbaaGreatDoor
open Go.RowKit
set_option linter.unusedVariables false
set_option maxHeartbeats 1000000
set_option maxRecDepth 100000
abbrev OpL:=List UInt8 × List UInt8 × Bool
def zbf:List OpL→List Value
 | []=>[]
 | p :: ps=>.string ⟨p.1.toArray⟩ :: .string ⟨p.2.1.toArray⟩ :: .bool p.2.2 :: zbf ps
theorem zv9 (ps:List OpL):(zbf ps).length=ps.length*3:=by
 induction ps with
 | nil=>rfl
 | cons p ps ih=>simp[zbf,ih];omega
theorem zo8 (a b:List OpL):zbf (a ++ b)=zbf a ++ zbf b:=by
 induction a with
 | nil=>rfl
 | cons p ps ih=>simp[zbf,ih]
theorem zva (ps:List OpL) (j:Nat) (h:j<ps.length):(zbf ps)[j*3]? = some (.string ⟨ps[j].1.toArray⟩)∧(zbf ps)[j*3+1]? = some (.string ⟨ps[j].2.1.toArray⟩)∧(zbf ps)[j*3+2]? = some (.bool ps[j].2.2):=by
 induction ps generalizing j with
 | nil=>simp at h
 | cons p ps ih =>
   match j,h with
   | 0,_=>exact⟨rfl,rfl,rfl⟩
   | j + 1, h =>
     have:=ih j (by simpa using h)
     have e:(j+1)*3=j*3+1+1+1:=by omega
     rw[e]
     simpa [zbf] using this
def IsOps (w:World) (a:Option Addr) (ps:List OpL):Prop :=
 ps=[]∨∃ b off,a=some ⟨b,off,none⟩∧∀ j (h:j<ps.length),w.cell? ⟨b,off+j*3,none⟩=some (.string ⟨ps[j].1.toArray⟩)∧w.cell? ⟨b,off+j*3+1,none⟩=some (.string ⟨ps[j].2.1.toArray⟩)∧w.cell? ⟨b,off+j*3+2,none⟩=some (.bool ps[j].2.2)
theorem IsOps.later {w w':World} {a:Option Addr} {ps:List OpL} (h:IsOps w a ps) (hb:Below w.heap.size w w'):IsOps w' a ps:=by
 rcases h with h | ⟨b,off,h1,h2⟩
 · exact .inl h
 · exact .inr ⟨b,off,h1,fun j h=>⟨(hb.cell (p:=⟨b,off+j*3,none⟩) (World.block_lt_of_cell? w _ (h2 j h).1)).trans (h2 j h).1,(hb.cell (p:=⟨b,off+j*3+1,none⟩) (World.block_lt_of_cell? w _ (h2 j h).2.1)).trans (h2 j h).2.1,(hb.cell (p:=⟨b,off+j*3+2,none⟩) (World.block_lt_of_cell? w _ (h2 j h).2.2)).trans (h2 j h).2.2⟩⟩
theorem zvb {w:World} {base e n:Nat} {a:Option Addr} {m cap:Nat} {ps:List OpL} (h:w.ownsRow base e 3 (.slice a m cap) n (zbf ps)):m=ps.length∧n=ps.length∧IsOps w a ps:=by
 have hl:ps.length=n:=by have:=h.1;rw[zv9] at this;omega
 rcases h.2 with ⟨h',h0⟩ | ⟨g,cap',cur,h',_⟩
 · cases h'
   exact⟨by omega,by omega,.inl (List.length_eq_zero_iff.1 (by omega))⟩
 · cases h'
   exact⟨by omega,by omega,.inr ⟨g,0,rfl,fun j hj=>by
    rw[Nat.zero_add,h.cellAt (j*3) (by omega),h.cellAt (j*3+1) (by omega),h.cellAt (j*3+2) (by omega)]
    exact zva ps j hj⟩⟩
theorem zvc {w:World} {base e n:Nat} {v:Value} {xs:List Value} (h:w.ownsRow base e 3 v n xs) :
 (v=.slice none 0 0∧n=0∧xs=[])∨∃ g cap,v=.slice (some ⟨g,0,none⟩) n cap∧base≤g∧g<w.heap.size∧(∀ j,j<n*3→w.cell? ⟨g,j,none⟩=xs[j]?)∧∀ j,w.frozen? ⟨g,j,none⟩=false:=by
 rcases h.2 with ⟨rfl,hn⟩ | ⟨g,cap,cur,rfl,hb,hg,_⟩
 · exact .inl ⟨rfl,hn,List.length_eq_zero_iff.1 (by rw[h.1,hn])⟩
 · exact .inr ⟨g,cap,rfl,hb,lt_of_block hg,fun j hj=>h.cellAt j hj,fun j=>h.frozenAt j⟩
theorem zvd (ps:List OpL) (j:Nat) (h:j<ps.length):ps.take (j+1)=ps.take j ++ [ps[j]]:=by rw[List.take_succ_eq_append_getElem h]
def opOk (p:OpL):Bool:=decide (p.1.length≤12) && (if p.2.2 then p.2.1.isEmpty else (!p.2.1.isEmpty && decide (p.2.1.length≤60)))
def zby (n:Int):Bool:=decide (1≤n∧n≤1000000000000)
def zax (c n:Int) (ps:List OpL):Bool:=zby c && zby n && decide (1≤ps.length) && decide (ps.length≤12) && ps.all opOk
theorem zo9 (c n:Int) (ps:List OpL) (j:Nat) (h:j<ps.length) (hb:opOk ps[j]=false):zax c n ps=false:=by
 have:ps.all opOk=false:=by
  rw[List.all_eq_false]
  exact⟨ps[j],List.getElem_mem _,by simp[hb]⟩
 simp[zax,this]
theorem zoa (c n:Int) (ps:List OpL) (h1:zby c=true) (h2:zby n=true) (h3:1≤ps.length) (h4:ps.length≤12) (h:∀ j (hj:j<ps.length),opOk ps[j]=true):zax c n ps=true:=by
 simp only[zax,Bool.and_eq_true,decide_eq_true_eq,List.all_eq_true]
 refine⟨⟨⟨⟨h1,h2⟩,h3⟩,h4⟩,fun p hp=>?_⟩
 obtain⟨j,hj,rfl⟩:=List.getElem_of_mem hp
 exact h j hj
theorem zb7 {w:World} {b:Nat} {u v x:Value} {t:TypeId} (h:w.heap[b]? = some (.cells #[u,v,x] t (0,0))) :
 w.cell? ⟨b,0,none⟩=some u∧w.cell? ⟨b,1,none⟩=some v∧w.cell? ⟨b,2,none⟩=some x∧∀ j,w.frozen? ⟨b,j,none⟩=false:=by
 refine⟨?_,?_,?_,fun j=>frozen_of_row w b j _ t h⟩ <;> simp only[World.cell?,h] <;> rfl
theorem zke {w:World} {b j:Nat} {u v x y:Value} {t:TypeId} (h:w.heap[b]? = some (.cells #[u,v,x] t (0,0))):(w.setCell ⟨b,j,none⟩ y).heap[b]? = some (.cells (#[u,v,x].setIfInBounds j y) t (0,0)):=by
 have hlt:=lt_of_block h
 have h':w.heap[b]=.cells #[u,v,x] t (0,0):=by simpa [Array.getElem?_eq_getElem hlt] using h
 show (w.heap.modify b _)[b]? = _
 rw[Array.getElem?_eq_getElem (by simpa using hlt),Array.getElem_modify_self,h']
 rfl
open Go.ChangeShapes Go.WideShapes Go.ChangeAt Go.RowKit
def chV (p:OpL):Value:=if p.2.2 then .iface 109 (.string ⟨p.1.toArray⟩) else .iface 108 (.agg #[.string ⟨p.1.toArray⟩,.string ⟨p.2.1.toArray⟩])
theorem zhx {B:Nat} {w w':World} {q:Nat} (h:Below B w w'):Below B w (w'.drewN q):=⟨h.os,h.tape,h.output,h.size,h.block⟩
theorem zhy {B:Nat} {w w':World} (h:Below B w w'):Below B w w'.drew:=⟨h.os,h.tape,h.output,h.size,h.block⟩
theorem zve (k v:List UInt8) (c:Bool) (w:World) (hk:k.length≤1048576) (hv:v.length≤1048576) :
 Calls Tryz.prog 58 #[.agg #[.string ⟨k.toArray⟩,.string ⟨v.toArray⟩,.bool c]] w fun e w'=>∃ u:Value,e=.returned (.tuple #[u,.bool (opOk (k,v,c))])∧(opOk (k,v,c)=true→u=chV (k,v,c))∧Below w.heap.size w w':=by
 have hb:Below w.heap.size w (w.alloc (.cells #[.string ⟨k.toArray⟩,.string ⟨v.toArray⟩,.bool c] 38)):=(Below.refl _ _).alloc (Nat.le_refl _) _
 by_cases q1:k.length≤12
 · have q1':(k.length:Int)≤12:=by omega
   have q1b:decide ((12:Int)<(k.length:Int))=false:=decide_eq_false (by omega)
   cases c with
   | true =>
     have HO:Hid (opOk (k,v,true)=v.isEmpty):=by rw[Hid];simp[opOk,q1]
     go_enter Tryz.func58,Tryz.ntmps58
     go_wp2
     go_quiet (fail)
     go_wp2
     go_ret2
     exact⟨_,by rw[HO.out];cases v <;> rfl,fun _=>rfl,by first | exact hb | exact zhy hb | exact zhx hb⟩
   | false =>
     cases v with
     | nil =>
       have HO:Hid (opOk (k,[],false)=false):=by rw[Hid];simp[opOk]
       go_enter Tryz.func58,Tryz.ntmps58
       go_wp2
       go_quiet (fail)
       go_wp2
       go_ret2
       exact⟨_,by rw[HO.out];rfl,fun h=>by rw[HO.out] at h;simp at h,by first | exact hb | exact zhy hb | exact zhx hb⟩
     | cons x xs =>
       obtain⟨v,hve⟩:∃ v,v=x :: xs:=⟨_,rfl⟩
       have q2p:0<v.length:=by rw[hve];simp
       have q2e:v.isEmpty=false:=by rw[hve];rfl
       have q2n:¬ v=[]:=by rw[hve];simp
       rw[←hve] at hv hb ⊢
       clear hve
       by_cases q3:v.length≤60
       · have q3':(v.length:Int)≤60:=by omega
         have q3b:decide ((v.length:Int)≤60)=true:=decide_eq_true q3'
         have HO:Hid (opOk (k,v,false)=true):=by rw[Hid];simp[opOk,q1,q2e,q3]
         go_enter Tryz.func58,Tryz.ntmps58
         go_wp2
         go_quiet (fail)
         go_wp2
         go_ret2
         exact⟨_,by rw[HO.out];rfl,fun h=>rfl,by first | exact hb | exact zhy hb | exact zhx hb⟩
       · have q3':¬ (v.length:Int)≤60:=by omega
         have q3b:decide ((v.length:Int)≤60)=false:=decide_eq_false q3'
         have HO:Hid (opOk (k,v,false)=false):=by rw[Hid];simp[opOk,q3]
         go_enter Tryz.func58,Tryz.ntmps58
         go_wp2
         go_quiet (fail)
         go_wp2
         go_ret2
         exact⟨_,by rw[HO.out];rfl,fun h=>by rw[HO.out] at h;simp at h,by first | exact hb | exact zhy hb | exact zhx hb⟩
 · have q1':¬ (k.length:Int)≤12:=by omega
   have HO:Hid (opOk (k,v,c)=false):=by rw[Hid];simp[opOk,q1]
   obtain⟨r,hr⟩:∃ r,r=opOk (k,v,c):=⟨_,rfl⟩
   rw[←hr] at HO ⊢
   clear hr
   go_enter Tryz.func58,Tryz.ntmps58
   go_wp2
   go_ret2
   exact⟨_,by rw[HO.out];rfl,fun h=>by rw[HO.out] at h;simp at h,hb⟩
theorem zvf (k v:List UInt8) (c:Bool) (w:World) (hk:k.length≤1048576) (hv:v.length≤1048576) :
 Calls Tryz.prog 80 #[.agg #[.string ⟨k.toArray⟩,.string ⟨v.toArray⟩,.bool c]] w fun e w'=>e=.returned (.bool (opOk (k,v,c)))∧Below w.heap.size w w':=by
 have hb:Below w.heap.size w (w.alloc (.cells #[.string ⟨k.toArray⟩,.string ⟨v.toArray⟩,.bool c] 38)):=(Below.refl _ _).alloc (Nat.le_refl _) _
 obtain⟨r,hr⟩:∃ r,r=opOk (k,v,c):=⟨_,rfl⟩
 have HR:Hid (r=opOk (k,v,c)):=hr
 rw[←hr]
 clear hr
 by_cases q1:k.length≤12
 · have q1':(k.length:Int)≤12:=by omega
   have q1b:decide ((k.length:Int)≤12)=true:=decide_eq_true q1'
   cases c with
   | true =>
     cases v with
     | nil =>
       have HO:Hid (r=true):=by rw[Hid,HR.out];simp[opOk,q1]
       clear HR
       go_enter Tryz.func80,Tryz.ntmps80
       go_wp2
       go_ret
       rw[HO.out]
       exact⟨rfl,hb⟩
     | cons x xs =>
       obtain⟨v,hve⟩:∃ v,v=x :: xs:=⟨_,rfl⟩
       have q2e:v.isEmpty=false:=by rw[hve];rfl
       have q2n:¬ v=[]:=by rw[hve];simp
       rw[←hve] at hv hb HR
       rw[←hve]
       clear hve
       have HO:Hid (r=false):=by rw[Hid,HR.out];simp[opOk,q2e]
       clear HR
       go_enter Tryz.func80,Tryz.ntmps80
       go_wp2
       go_ret
       rw[HO.out]
       exact⟨rfl,hb⟩
   | false =>
     cases v with
     | nil =>
       have HO:Hid (r=false):=by rw[Hid,HR.out];simp[opOk]
       clear HR
       go_enter Tryz.func80,Tryz.ntmps80
       go_wp2
       go_ret
       rw[HO.out]
       exact⟨rfl,hb⟩
     | cons x xs =>
       obtain⟨v,hve⟩:∃ v,v=x :: xs:=⟨_,rfl⟩
       have q2p:0<v.length:=by rw[hve];simp
       have q2e:v.isEmpty=false:=by rw[hve];rfl
       have q2n:¬ v=[]:=by rw[hve];simp
       have q2':(1:Int)≤(v.length:Int):=by omega
       have q2b:decide ((1:Int)≤(v.length:Int))=true:=decide_eq_true q2'
       rw[←hve] at hv hb HR
       rw[←hve]
       clear hve
       by_cases q3:v.length≤60
       · have q3':(v.length:Int)≤60:=by omega
         have q3b:decide ((v.length:Int)≤60)=true:=decide_eq_true q3'
         have HO:Hid (r=true):=by rw[Hid,HR.out];simp[opOk,q1,q2e,q3]
         clear HR
         go_enter Tryz.func80,Tryz.ntmps80
         go_wp2
         go_ret
         rw[HO.out]
         exact⟨rfl,hb⟩
       · have q3':¬ (v.length:Int)≤60:=by omega
         have q3b:decide ((v.length:Int)≤60)=false:=decide_eq_false q3'
         have HO:Hid (r=false):=by rw[Hid,HR.out];simp[opOk,q3]
         clear HR
         go_enter Tryz.func80,Tryz.ntmps80
         go_wp2
         go_ret
         rw[HO.out]
         exact⟨rfl,hb⟩
 · have q1':¬ (k.length:Int)≤12:=by omega
   have q1b:decide ((k.length:Int)≤12)=false:=decide_eq_false q1'
   have HO:Hid (r=false):=by rw[Hid,HR.out];simp[opOk,q1]
   clear HR
   go_enter Tryz.func80,Tryz.ntmps80
   go_wp2
   go_ret
   rw[HO.out]
   exact⟨rfl,hb⟩
theorem zvg (c n:Int) (w:World) :
 Calls Tryz.prog 57 #[.int .i64 c,.int .i64 n] w fun e w'=>e=.returned (.bool (zby c && zby n))∧Below w.heap.size w w':=by
 obtain⟨r,hr⟩:∃ r,r=(zby c && zby n):=⟨_,rfl⟩
 have HR:Hid (r=(decide (1≤c∧c≤1000000000000) && decide (1≤n∧n≤1000000000000))):=hr
 rw[←hr]
 clear hr
 by_cases h0:1≤c
 · have b0:decide (1≤c)=true:=decide_eq_true h0
   by_cases h1:c≤1000000000000
   · have b1:decide (c≤1000000000000)=true:=decide_eq_true h1
     by_cases h2:1≤n
     · have b2:decide (1≤n)=true:=decide_eq_true h2
       by_cases h3:n≤1000000000000
       · have b3:decide (n≤1000000000000)=true:=decide_eq_true h3
         have HO:Hid (r=true):=by rw[Hid,HR.out];simp[h0,h1,h2,h3]
         clear HR
         go_enter Tryz.func57,Tryz.ntmps57
         go_wp2
         go_ret
         rw[HO.out]
         exact⟨rfl,Below.refl _ _⟩
       · have b3:decide (n≤1000000000000)=false:=decide_eq_false h3
         have HO:Hid (r=false):=by rw[Hid,HR.out];simp[h3]
         clear HR
         go_enter Tryz.func57,Tryz.ntmps57
         go_wp2
         go_ret
         rw[HO.out]
         exact⟨rfl,Below.refl _ _⟩
     · have b2:decide (1≤n)=false:=decide_eq_false h2
       have HO:Hid (r=false):=by rw[Hid,HR.out];simp[h2]
       clear HR
       go_enter Tryz.func57,Tryz.ntmps57
       go_wp2
       go_ret
       rw[HO.out]
       exact⟨rfl,Below.refl _ _⟩
   · have b1:decide (c≤1000000000000)=false:=decide_eq_false h1
     have HO:Hid (r=false):=by rw[Hid,HR.out];simp[h1]
     clear HR
     go_enter Tryz.func57,Tryz.ntmps57
     go_wp2
     go_ret
     rw[HO.out]
     exact⟨rfl,Below.refl _ _⟩
 · have b0:decide (1≤c)=false:=decide_eq_false h0
   have HO:Hid (r=false):=by rw[Hid,HR.out];simp[h0]
   clear HR
   go_enter Tryz.func57,Tryz.ntmps57
   go_wp2
   go_ret
   rw[HO.out]
   exact⟨rfl,Below.refl _ _⟩
theorem zob (n lo hi:Int) (w:World) :
 Calls Tryz.prog 79 #[.int .i64 n,.int .i64 lo,.int .i64 hi] w fun e w'=>e=.returned (.bool (decide (lo≤n∧n≤hi)))∧Below w.heap.size w w':=by
 obtain⟨r,hr⟩:∃ r,r=decide (lo≤n∧n≤hi):=⟨_,rfl⟩
 have HR:Hid (r=decide (lo≤n∧n≤hi)):=hr
 rw[←hr]
 clear hr
 by_cases h0:lo≤n
 · have b0:decide (lo≤n)=true:=decide_eq_true h0
   by_cases h1:n≤hi
   · have b1:decide (n≤hi)=true:=decide_eq_true h1
     have HO:Hid (r=true):=by rw[Hid,HR.out];simp[h0,h1]
     clear HR
     go_enter Tryz.func79,Tryz.ntmps79
     go_wp2
     go_ret
     rw[HO.out]
     exact⟨rfl,Below.refl _ _⟩
   · have b1:decide (n≤hi)=false:=decide_eq_false h1
     have HO:Hid (r=false):=by rw[Hid,HR.out];simp[h1]
     clear HR
     go_enter Tryz.func79,Tryz.ntmps79
     go_wp2
     go_ret
     rw[HO.out]
     exact⟨rfl,Below.refl _ _⟩
 · have b0:decide (lo≤n)=false:=decide_eq_false h0
   have HO:Hid (r=false):=by rw[Hid,HR.out];simp[h0]
   clear HR
   go_enter Tryz.func79,Tryz.ntmps79
   go_wp2
   go_ret
   rw[HO.out]
   exact⟨rfl,Below.refl _ _⟩
theorem zkf {w w':World} {b e n:Nat} {v:Value} {xs:List Value} (h:w.ownsRow b e 1 v n xs) (hb:Below w.heap.size w w'):w'.ownsRow b e 1 v n xs :=
 h.kept (row:=none) ⟨hb.os,hb.tape,hb.output,hb.size,fun k hk _=>hb.block k hk⟩ (by cases v.ownBlock with | none=>exact .inl rfl | some k=>exact .inr (by simp))
theorem zoc (p:OpL):∃ t v,chV p=.iface t v:=by
 unfold chV;split
 · exact⟨_,_,rfl⟩
 · exact⟨_,_,rfl⟩
theorem zvh:(Tryz.prog.info? 63).map (fun i=>(i.zero,i.size,i.bytes))=some (some .nilIface,1,16):=by kernel_rfl
def zod (w:World) (ok:Bool) (ps:List OpL) (e:Ending) (w':World):Prop:=match ok with
 | false=>e=.returned (.tuple #[.slice none 0 0,.bool false])∧Below w.heap.size w w'
 | true=>∃ (a:Option Addr) (c:Nat),e=.returned (.tuple #[.slice a ps.length c,.bool true])∧w'.ownsRow w.heap.size 63 1 (.slice a ps.length c) ps.length (ps.map chV)∧Below w.heap.size w w'
theorem zvi (c n : Int) (a : Option Addr) (cap : Nat) (ps : List OpL) (w : World) (hl : ps.length ≤ 1048576) (hm : ∀ p ∈ ps, p.1.length ≤ 1048576 ∧ p.2.1.length ≤ 1048576) (hs : IsOps w a ps) :
 Calls Tryz.prog 23 #[.agg #[.int .i64 c,.int .i64 n,.slice a ps.length cap]] w fun e w'=>zod w (zax c n ps) ps e w':=by
 obtain⟨i0,hi0,hz0,hz1,hz2⟩:=info_parts zvh
 have B0:Below w.heap.size w (w.alloc (.cells #[.int .i64 c,.int .i64 n,.slice a ps.length cap] 27)):=(Below.refl _ _).alloc (Nat.le_refl _) _
 have HQ:Hid ((w.alloc (.cells #[.int .i64 c,.int .i64 n,.slice a ps.length cap] 27)).heap[w.heap.size]? = some (.cells #[.int .i64 c,.int .i64 n,.slice a ps.length cap] 27 (0,0))):=heap_alloc_new w _
 have HL:Hid (w.heap.size<(w.alloc (.cells #[.int .i64 c,.int .i64 n,.slice a ps.length cap] 27)).heap.size):=by rw[Hid];simp
 have BX:Hid (Below w.heap.size w (w.alloc (.cells #[.int .i64 c,.int .i64 n,.slice a ps.length cap] 27))):=B0
 have hsx:=hs.later B0
 obtain⟨r,hr⟩:∃ r,r=zax c n ps:=⟨_,rfl⟩
 have HR:Hid (r=zax c n ps):=hr
 have K:=zvg c n (w.alloc (.cells #[.int .i64 c,.int .i64 n,.slice a ps.length cap] 27))
 rw[←hr]
 clear hr hs B0
 cases hn:(zby c && zby n) with
 | false =>
   rw[hn] at K
   have HO:Hid (r=false):=by rw[Hid,HR.out,zax,hn];simp
   clear HR hn hsx hm
   go_enter Tryz.func23,Tryz.ntmps23
   go_wp2_with fail
   refine K.mono ?_
   rintro e w1 ⟨rfl,b1⟩
   have B1:=BX.out.trans (b1.mono BX.out.size)
   clear b1 K
   go_wp2
   go_ret2
   rw[HO.out]
   exact⟨rfl,B1⟩
 | true =>
   rw[hn] at K
   have HNC:Hid (zby c=true∧zby n=true):=by rw[Hid];simpa using hn
   clear hn
   by_cases h1:1≤ps.length
   · have h1' : ¬ (ps.length : Int) < 1 := by omega
     have h1b:decide ((ps.length:Int)<1)=false:=decide_eq_false h1'
     by_cases h12:ps.length≤12
     · have h12' : ¬ (12 : Int) < (ps.length : Int) := by omega
       have h12b:decide ((12:Int)<(ps.length:Int))=false:=decide_eq_false h12'
       have hm':∀ j (h:j<ps.length),ps[j].1.length≤1048576∧ps[j].2.1.length≤1048576:=fun j h=>hm _ (List.getElem_mem _)
       have HBAD:Hid (∀ j (h:j<ps.length),opOk ps[j]=false→r=false):=fun j h hb=>by rw[HR.out];exact zo9 c n ps j h hb
       have HALL:Hid ((∀ j (h:j<ps.length),opOk ps[j]=true)→r=true):=fun h=>by rw[HR.out];exact zoa c n ps HNC.out.1 HNC.out.2 h1 h12 h
       obtain⟨b,off,rfl,hc⟩:∃ b off,a=some ⟨b,off,none⟩∧∀ j (h:j<ps.length),(w.alloc (.cells #[.int .i64 c,.int .i64 n,.slice a ps.length cap] 27)).cell? ⟨b,off+j*3,none⟩=some (.string ⟨ps[j].1.toArray⟩)∧(w.alloc (.cells #[.int .i64 c,.int .i64 n,.slice a ps.length cap] 27)).cell? ⟨b,off+j*3+1,none⟩=some (.string ⟨ps[j].2.1.toArray⟩)∧(w.alloc (.cells #[.int .i64 c,.int .i64 n,.slice a ps.length cap] 27)).cell? ⟨b,off+j*3+2,none⟩=some (.bool ps[j].2.2):=by
        rcases hsx with h | h
        · rw[h] at h1;simp at h1
        · exact h
       clear HR hsx hm
       go_enter Tryz.func23,Tryz.ntmps23
       go_wp2_with fail
       refine K.mono ?_
       rintro e w1 ⟨rfl,b1⟩
       obtain⟨bc0,bc1,bc2,bcf⟩:=zb7 ((b1.block w.heap.size HL.out).trans HQ.out)
       have hc1:∀ j (h:j<ps.length),w1.cell? ⟨b,off+j*3,none⟩=some (.string ⟨ps[j].1.toArray⟩)∧w1.cell? ⟨b,off+j*3+1,none⟩=some (.string ⟨ps[j].2.1.toArray⟩)∧w1.cell? ⟨b,off+j*3+2,none⟩=some (.bool ps[j].2.2):=fun j h=>⟨(b1.cell (p:=⟨b,off+j*3,none⟩) (World.block_lt_of_cell? _ _ (hc j h).1)).trans (hc j h).1,(b1.cell (p:=⟨b,off+j*3+1,none⟩) (World.block_lt_of_cell? _ _ (hc j h).2.1)).trans (hc j h).2.1,(b1.cell (p:=⟨b,off+j*3+2,none⟩) (World.block_lt_of_cell? _ _ (hc j h).2.2)).trans (hc j h).2.2⟩
       have B1:=BX.out.trans (b1.mono BX.out.size)
       have hs1:=B1.size
       clear b1 K bcf hc bc0 bc1
       go_wp2
       go_loopw [4,6,7,8,30] (fun v _ _ _ i wr=>∃ j c2:Nat,∃ a2:Option Addr,j≤ps.length∧i=.int .i64 (j:Int)∧v=.slice a2 j c2∧Hid (∀ q (h:q<ps.length),q<j→opOk ps[q]=true)∧wr.ownsRow w1.heap.size 63 1 (.slice a2 j c2) j ((ps.take j).map chV)∧Below w1.heap.size w1 wr) (fun _ _ _ _ i _=>ps.length - (intOf i).toNat)
       case atStart=>exact⟨0,0,none,Nat.zero_le _,rfl,rfl,fun q _ h=>by omega,World.ownsRow_nil _ _ _ _,Below.refl _ _⟩
       case round =>
        obtain⟨j,c2,a2,hj,rfl,rfl,HA,hown,hbel⟩:=hrel
        have hsz:=hbel.size
        have hwb:Below w.heap.size w wr:=B1.trans (hbel.mono hs1)
        by_cases hlt:j<ps.length
        · have d1:=(hbel.cell (p:=⟨b,off+j*3,none⟩) (World.block_lt_of_cell? _ _ (hc1 j hlt).1)).trans (hc1 j hlt).1
          have d2:=(hbel.cell (p:=⟨b,off+j*3+1,none⟩) (World.block_lt_of_cell? _ _ (hc1 j hlt).2.1)).trans (hc1 j hlt).2.1
          have d3:=(hbel.cell (p:=⟨b,off+j*3+2,none⟩) (World.block_lt_of_cell? _ _ (hc1 j hlt).2.2)).trans (hc1 j hlt).2.2
          have m1:=hm' j hlt
          have hj0:(0:Int)≤(j:Int):=by omega
          have hj1:(j:Int)<(ps.length:Int):=by omega
          have HB:Hid (opOk ps[j]=false→r=false):=HBAD.out j hlt
          have HN:Hid (opOk ps[j]=true→∀ q (h:q<ps.length),q<j+1→opOk ps[q]=true):=fun h q hq hk=>by
           by_cases e:q=j
           · subst e;exact h
           · exact HA.out q hq (by omega)
          have HT:Hid ((ps.take (j+1)).map chV=(ps.take j).map chV ++ [chV ps[j]]):=by rw[Hid,zvd ps j hlt,List.map_append];rfl
          have hlow:∀ k,(Value.slice a2 j c2).ownBlock=some k→w1.heap.size≤k:=fun k hk=>(hown.lt k hk).1
          obtain⟨p,hp⟩:∃ p,p=ps[j]:=⟨_,rfl⟩
          rw[←hp] at d1 d2 d3 m1 HB HN HT
          obtain⟨x,y,z⟩:=p
          simp only at d1 d2 d3 m1
          have HW:Hid (wr.ownsRow w1.heap.size 63 1 (.slice a2 j c2) j ((ps.take j).map chV)):=hown
          have KO:=zve x y z (wr.alloc (.cells #[.string ⟨x.toArray⟩,.string ⟨y.toArray⟩,.bool z] 38)) m1.1 m1.2
          have BW:Hid (Below wr.heap.size wr (wr.alloc (.cells #[.string ⟨x.toArray⟩,.string ⟨y.toArray⟩,.bool z] 38))):=(Below.refl _ _).alloc (Nat.le_refl _) _
          clear hp hown hm' hc1 HA HALL HBAD m1
          go_wp2_with fail
          refine KO.mono ?_
          rintro e w2 ⟨u,rfl,hu,b2⟩
          have bw2:=BW.out.trans (b2.mono BW.out.size)
          have hown2:=zkf HW.out bw2
          have hbel2:=hbel.trans (bw2.mono hsz)
          have hsz2:=hbel2.size
          have B2:=B1.trans (hbel2.mono hs1)
          cases hok:opOk (x,y,z) with
          | false =>
            have HO:Hid (r=false):=HB.out hok
            clear HW b2 bw2 KO hbel hu hok HB HN HT hown2
            go_wp2
            go_ret2
            rw[HO.out]
            exact⟨rfl,B2⟩
          | true =>
            obtain⟨ut,uv,hch⟩:=zoc (x,y,z)
            have hu':=hu hok
            rw[hch] at hu'
            subst hu'
            have HU:Hid (Value.iface ut uv=chV (x,y,z)):=hch.symm
            have HN2:Hid (∀ q (h:q<ps.length),q<j+1→opOk ps[q]=true):=HN.out hok
            clear HW b2 bw2 KO hbel hu hok HB HN B2 hch
            go_wp2_with (at_builtin;refine wpList_append_lies _ rfl _ _ 54 rfl w1.heap.size 63 i0 .nilIface 1 16 Tryz.underlying54 hi0 hz0 hz1 hz2 rfl (by decide) (.slice a2 j c2) j _ rfl (hown2.alloc _) ⟨w2.heap.size,0,none⟩ 1 1 [.iface ut uv] rfl rfl (World.news_of_block (cs:=#[.iface ut uv]) (t:=63) (fr:=(0,0)) (heap_alloc_new w2 _)) (by simp[Value.oneCell']) (by omega) (by unfold maxLen;omega) (by omega) (by simp;omega) (w2.heap.size+1) (by simp) ?_;intro g2 cap2 w3 hown3 hgrow hat hlt3)
            have hbel3:Below w1.heap.size w1 w3:=(hbel2.alloc hsz2 _).grown hgrow (by simp;omega) hlow
            have HO3:Hid (w3.ownsRow w1.heap.size 63 1 (.slice (some ⟨g2,0,none⟩) (j+1) cap2) (j+1) ((ps.take (j+1)).map chV)):=by rw[Hid,HT.out,←HU.out];exact hown3
            clear hgrow hown3 hown2 hbel2
            go_roundw
            case rel=>exact⟨j+1,cap2,some ⟨g2,0,none⟩,by omega,by go_num,rfl,HN2.out,HO3.out,hbel3⟩
            case measure=>simp[intOf];omega
        · have hjl:j=ps.length:=by omega
          subst hjl
          have HO:Hid (r=true):=HALL.out (fun q h=>HA.out q h h)
          rw[List.take_length] at hown
          have HW:Hid (wr.ownsRow w1.heap.size 63 1 (.slice a2 ps.length c2) ps.length (ps.map chV)):=hown
          clear hown hc1 hm' HBAD HALL HA
          go_wp2
          go_ret2
          rw[HO.out]
          exact⟨a2,c2,rfl,HW.out.mono hs1,hwb⟩
     · have h12':(12:Int)<(ps.length:Int):=by omega
       have h12b:decide ((12:Int)<(ps.length:Int))=true:=decide_eq_true h12'
       have HO:Hid (r=false):=by rw[Hid,HR.out,zax];simp[h12]
       clear HR hsx hm
       go_enter Tryz.func23,Tryz.ntmps23
       go_wp2_with fail
       refine K.mono ?_
       rintro e w1 ⟨rfl,b1⟩
       obtain⟨bc0,bc1,bc2,bcf⟩:=zb7 ((b1.block w.heap.size HL.out).trans HQ.out)
       have B1:=BX.out.trans (b1.mono BX.out.size)
       clear b1 K bcf
       go_wp2
       go_ret2
       rw[HO.out]
       exact⟨rfl,B1⟩
   · have h1':(ps.length:Int)<1:=by omega
     have h1b:decide ((ps.length:Int)<1)=true:=decide_eq_true h1'
     have h0':ps.length=0:=by omega
     have HO:Hid (r=false):=by rw[Hid,HR.out,zax];simp[h0']
     clear HR hsx hm h0'
     go_enter Tryz.func23,Tryz.ntmps23
     go_wp2_with fail
     refine K.mono ?_
     rintro e w1 ⟨rfl,b1⟩
     obtain⟨bc0,bc1,bc2,bcf⟩:=zb7 ((b1.block w.heap.size HL.out).trans HQ.out)
     have B1:=BX.out.trans (b1.mono BX.out.size)
     clear b1 K bcf
     go_wp2
     go_ret2
     rw[HO.out]
     exact⟨rfl,B1⟩
theorem zvj (c n:Int) (a:Option Addr) (cap:Nat) (ps:List OpL) (w:World) (hl:ps.length≤1048576) (hm:∀ p∈ps,p.1.length≤1048576∧p.2.1.length≤1048576) (hs:IsOps w a ps) :
 Calls Tryz.prog 47 #[.agg #[.int .i64 c,.int .i64 n,.slice a ps.length cap]] w fun e w'=>e=.returned (.bool (zax c n ps))∧Below w.heap.size w w':=by
 have B0:Below w.heap.size w (w.alloc (.cells #[.int .i64 c,.int .i64 n,.slice a ps.length cap] 27)):=(Below.refl _ _).alloc (Nat.le_refl _) _
 have HQ:Hid ((w.alloc (.cells #[.int .i64 c,.int .i64 n,.slice a ps.length cap] 27)).heap[w.heap.size]? = some (.cells #[.int .i64 c,.int .i64 n,.slice a ps.length cap] 27 (0,0))):=heap_alloc_new w _
 have HL:Hid (w.heap.size<(w.alloc (.cells #[.int .i64 c,.int .i64 n,.slice a ps.length cap] 27)).heap.size):=by rw[Hid];simp
 have BX:Hid (Below w.heap.size w (w.alloc (.cells #[.int .i64 c,.int .i64 n,.slice a ps.length cap] 27))):=B0
 have hsx:=hs.later B0
 obtain⟨r,hr⟩:∃ r,r=zax c n ps:=⟨_,rfl⟩
 have HR:Hid (r=zax c n ps):=hr
 have K:=zob c 1 1000000000000 (w.alloc (.cells #[.int .i64 c,.int .i64 n,.slice a ps.length cap] 27))
 have K2:=fun W=>zob n 1 1000000000000 W
 change Calls _ _ _ _ (fun e w'=>e=.returned (.bool (zby c))∧_) at K
 change ∀ W,Calls _ _ _ _ (fun e w'=>e=.returned (.bool (zby n))∧_) at K2
 rw[←hr]
 clear hr hs B0
 cases hn:zby c with
 | false =>
   rw[hn] at K
   have HO:Hid (r=false):=by rw[Hid,HR.out,zax,hn];simp
   clear HR hn hsx hm K2
   go_enter Tryz.func47,Tryz.ntmps47
   go_wp2_with fail
   refine K.mono ?_
   rintro e w1 ⟨rfl,b1⟩
   obtain⟨bc0,bc1,bc2,bcf⟩:=zb7 ((b1.block w.heap.size HL.out).trans HQ.out)
   have B1:=BX.out.trans (b1.mono BX.out.size)
   have HB1:Hid (Below _ _ w1):=b1
   clear b1 K bcf
   go_wp2
   go_ret
   rw[HO.out]
   exact⟨rfl,B1⟩
 | true =>
   rw[hn] at K
   cases hn2:zby n with
   | false =>
     rw[hn2] at K2
     have HO:Hid (r=false):=by rw[Hid,HR.out,zax,hn2];simp
     clear HR hn hn2 hsx hm
     go_enter Tryz.func47,Tryz.ntmps47
     go_wp2_with fail
     refine K.mono ?_
     rintro e w1 ⟨rfl,b1⟩
     obtain⟨bc0,bc1,bc2,bcf⟩:=zb7 ((b1.block w.heap.size HL.out).trans HQ.out)
     have B1:=BX.out.trans (b1.mono BX.out.size)
     have HB1:Hid (Below _ _ w1):=b1
     clear b1 K bcf
     go_wp2_with fail
     refine (K2 _).mono ?_
     rintro e w2 ⟨rfl,b2⟩
     have B2:=B1.trans (b2.mono B1.size)
     have b12:=HB1.out.trans (b2.mono HB1.out.size)
     clear bc0 bc1 bc2 HB1
     obtain⟨bc0,bc1,bc2,bcf⟩:=zb7 ((b12.block w.heap.size HL.out).trans HQ.out)
     clear bcf b2 B1 K2
     go_wp2
     go_ret
     rw[HO.out]
     exact⟨rfl,B2⟩
   | true =>
     rw[hn2] at K2
     have HNC:Hid (zby c=true∧zby n=true):=⟨hn,hn2⟩
     clear hn hn2
     by_cases h1:1≤ps.length
     · have h1' : ¬ (ps.length : Int) < 1 := by omega
       have h1b:decide ((ps.length:Int)<1)=false:=decide_eq_false h1'
       by_cases h12:ps.length≤12
       · have h12' : ¬ (12 : Int) < (ps.length : Int) := by omega
         have h12b:decide ((12:Int)<(ps.length:Int))=false:=decide_eq_false h12'
         have hm':∀ j (h:j<ps.length),ps[j].1.length≤1048576∧ps[j].2.1.length≤1048576:=fun j h=>hm _ (List.getElem_mem _)
         have HBAD:Hid (∀ j (h:j<ps.length),opOk ps[j]=false→r=false):=fun j h hb=>by rw[HR.out];exact zo9 c n ps j h hb
         have HALL:Hid ((∀ j (h:j<ps.length),opOk ps[j]=true)→r=true):=fun h=>by rw[HR.out];exact zoa c n ps HNC.out.1 HNC.out.2 h1 h12 h
         obtain⟨b,off,rfl,hc⟩:∃ b off,a=some ⟨b,off,none⟩∧∀ j (h:j<ps.length),(w.alloc (.cells #[.int .i64 c,.int .i64 n,.slice a ps.length cap] 27)).cell? ⟨b,off+j*3,none⟩=some (.string ⟨ps[j].1.toArray⟩)∧(w.alloc (.cells #[.int .i64 c,.int .i64 n,.slice a ps.length cap] 27)).cell? ⟨b,off+j*3+1,none⟩=some (.string ⟨ps[j].2.1.toArray⟩)∧(w.alloc (.cells #[.int .i64 c,.int .i64 n,.slice a ps.length cap] 27)).cell? ⟨b,off+j*3+2,none⟩=some (.bool ps[j].2.2):=by
          rcases hsx with h | h
          · rw[h] at h1;simp at h1
          · exact h
         clear HR hsx hm
         go_enter Tryz.func47,Tryz.ntmps47
         go_wp2_with fail
         refine K.mono ?_
         rintro e w1 ⟨rfl,b1⟩
         obtain⟨bc0,bc1,bc2,bcf⟩:=zb7 ((b1.block w.heap.size HL.out).trans HQ.out)
         have B1:=BX.out.trans (b1.mono BX.out.size)
         have HB1:Hid (Below _ _ w1):=b1
         clear b1 K bcf
         go_wp2_with fail
         refine (K2 _).mono ?_
         rintro e w2 ⟨rfl,b2⟩
         have B2:=B1.trans (b2.mono B1.size)
         have b12:=HB1.out.trans (b2.mono HB1.out.size)
         clear bc0 bc1 bc2 HB1
         obtain⟨bc0,bc1,bc2,bcf⟩:=zb7 ((b12.block w.heap.size HL.out).trans HQ.out)
         clear bcf b2 B1 K2
         have hs2:=B2.size
         have hc1:∀ j (h:j<ps.length),w2.cell? ⟨b,off+j*3,none⟩=some (.string ⟨ps[j].1.toArray⟩)∧w2.cell? ⟨b,off+j*3+1,none⟩=some (.string ⟨ps[j].2.1.toArray⟩)∧w2.cell? ⟨b,off+j*3+2,none⟩=some (.bool ps[j].2.2):=fun j h=>⟨(b12.cell (p:=⟨b,off+j*3,none⟩) (World.block_lt_of_cell? _ _ (hc j h).1)).trans (hc j h).1,(b12.cell (p:=⟨b,off+j*3+1,none⟩) (World.block_lt_of_cell? _ _ (hc j h).2.1)).trans (hc j h).2.1,(b12.cell (p:=⟨b,off+j*3+2,none⟩) (World.block_lt_of_cell? _ _ (hc j h).2.2)).trans (hc j h).2.2⟩
         have HBC:Hid (w2.cell? ⟨w.heap.size,2,none⟩=some (.slice (some ⟨b,off,none⟩) ps.length cap)):=bc2
         clear b12 hc bc0 bc1
         go_wp2
         clear bc2
         go_loopw [3] (fun i wr=>∃ j:Nat,j≤ps.length∧i=.int .i64 (j:Int)∧Hid (∀ q (h:q<ps.length),q<j→opOk ps[q]=true)∧Below w2.heap.size w2 wr) (fun i _=>ps.length - (intOf i).toNat)
         case atStart=>exact⟨0,Nat.zero_le _,rfl,fun q _ h=>by omega,Below.refl _ _⟩
         case round =>
          obtain⟨j,hj,rfl,HA,hbel⟩:=hrel
          have hsz:=hbel.size
          have hwb:Below w.heap.size w wr:=B2.trans (hbel.mono hs2)
          have bq:=(hbel.cell (p:=⟨w.heap.size,2,none⟩) (World.block_lt_of_cell? _ _ HBC.out)).trans HBC.out
          by_cases hlt:j<ps.length
          · have d1:=(hbel.cell (p:=⟨b,off+j*3,none⟩) (World.block_lt_of_cell? _ _ (hc1 j hlt).1)).trans (hc1 j hlt).1
            have d2:=(hbel.cell (p:=⟨b,off+j*3+1,none⟩) (World.block_lt_of_cell? _ _ (hc1 j hlt).2.1)).trans (hc1 j hlt).2.1
            have d3:=(hbel.cell (p:=⟨b,off+j*3+2,none⟩) (World.block_lt_of_cell? _ _ (hc1 j hlt).2.2)).trans (hc1 j hlt).2.2
            have m1:=hm' j hlt
            have hj0:(0:Int)≤(j:Int):=by omega
            have hj1:(j:Int)<(ps.length:Int):=by omega
            have HB:Hid (opOk ps[j]=false→r=false):=HBAD.out j hlt
            have HN:Hid (opOk ps[j]=true→∀ q (h:q<ps.length),q<j+1→opOk ps[q]=true):=fun h q hq hk=>by
             by_cases e:q=j
             · subst e;exact h
             · exact HA.out q hq (by omega)
            obtain⟨p,hp⟩:∃ p,p=ps[j]:=⟨_,rfl⟩
            rw[←hp] at d1 d2 d3 m1 HB HN
            obtain⟨x,y,z⟩:=p
            simp only at d1 d2 d3 m1
            have KO:=zvf x y z wr m1.1 m1.2
            clear hp hm' hc1 HA HALL HBAD m1
            go_wp2_with fail
            refine KO.mono ?_
            rintro e w3 ⟨rfl,b3⟩
            have hbel3:=hbel.trans (b3.mono hsz)
            have B3:=B2.trans (hbel3.mono hs2)
            cases hok:opOk (x,y,z) with
            | false =>
              have HO:Hid (r=false):=HB.out hok
              clear b3 KO hbel hok HB HN
              go_wp2
              go_ret
              rw[HO.out]
              exact⟨rfl,B3⟩
            | true =>
              have HN2:Hid (∀ q (h:q<ps.length),q<j+1→opOk ps[q]=true):=HN.out hok
              clear b3 KO hbel hok HB HN B3
              go_wp2
              go_roundw
              case rel=>exact⟨j+1,by omega,by go_num,HN2.out,hbel3⟩
              case measure=>simp[intOf];omega
          · have hjl:j=ps.length:=by omega
            subst hjl
            have HO:Hid (r=true):=HALL.out (fun q h=>HA.out q h h)
            clear hc1 hm' HBAD HALL HA
            go_wp2
            go_ret
            rw[HO.out]
            exact⟨rfl,hwb⟩
       · have h12':(12:Int)<(ps.length:Int):=by omega
         have h12b:decide ((12:Int)<(ps.length:Int))=true:=decide_eq_true h12'
         have HO:Hid (r=false):=by rw[Hid,HR.out,zax];simp[h12]
         clear HR hsx hm
         go_enter Tryz.func47,Tryz.ntmps47
         go_wp2_with fail
         refine K.mono ?_
         rintro e w1 ⟨rfl,b1⟩
         obtain⟨bc0,bc1,bc2,bcf⟩:=zb7 ((b1.block w.heap.size HL.out).trans HQ.out)
         have B1:=BX.out.trans (b1.mono BX.out.size)
         have HB1:Hid (Below _ _ w1):=b1
         clear b1 K bcf
         go_wp2_with fail
         refine (K2 _).mono ?_
         rintro e w2 ⟨rfl,b2⟩
         have B2:=B1.trans (b2.mono B1.size)
         have b12:=HB1.out.trans (b2.mono HB1.out.size)
         clear bc0 bc1 bc2 HB1
         obtain⟨bc0,bc1,bc2,bcf⟩:=zb7 ((b12.block w.heap.size HL.out).trans HQ.out)
         clear bcf b2 B1 K2
         go_wp2
         go_ret
         rw[HO.out]
         exact⟨rfl,B2⟩
     · have h1':(ps.length:Int)<1:=by omega
       have h1b:decide ((ps.length:Int)<1)=true:=decide_eq_true h1'
       have h0':ps.length=0:=by omega
       have HO:Hid (r=false):=by rw[Hid,HR.out,zax];simp[h0']
       clear HR hsx hm h0'
       go_enter Tryz.func47,Tryz.ntmps47
       go_wp2_with fail
       refine K.mono ?_
       rintro e w1 ⟨rfl,b1⟩
       obtain⟨bc0,bc1,bc2,bcf⟩:=zb7 ((b1.block w.heap.size HL.out).trans HQ.out)
       have B1:=BX.out.trans (b1.mono BX.out.size)
       have HB1:Hid (Below _ _ w1):=b1
       clear b1 K bcf
       go_wp2_with fail
       refine (K2 _).mono ?_
       rintro e w2 ⟨rfl,b2⟩
       have B2:=B1.trans (b2.mono B1.size)
       have b12:=HB1.out.trans (b2.mono HB1.out.size)
       clear bc0 bc1 bc2 HB1
       obtain⟨bc0,bc1,bc2,bcf⟩:=zb7 ((b12.block w.heap.size HL.out).trans HQ.out)
       clear bcf b2 B1 K2
       go_wp2
       go_ret
       rw[HO.out]
       exact⟨rfl,B2⟩
end Go.Proofs.YtiadimhoolekbaaGreatDoor
