/-
 Texts that are laid as one: Step, SStep, Way.
-/
import Derived.Test.YthbfhofogoagdaaGreatDoorGetAll
import Derived.Test.YthbfhofogoagdaaGreatDoorHexAll
import Derived.Test.YthbfhofogoagdaaGreatDoorIReadAll
import Derived.Test.YthbfhofogoagdaaGreatDoorSReadM
namespace Go.Proofs.YthbfhofogoagdaaGreatDoor
open Go.RowKit
set_option linter.unusedVariables false
theorem isNibs_dropS (n:Nat) (l:List UInt8) (h:isNibs l=true):isNibs (l.drop n)=true:=by
 simp only[isNibs,List.all_eq_true] at h ⊢
 exact fun x hx=>h x (List.mem_of_mem_drop hx)
def AtPost0 (w0 w:World) (o:Option (List UInt8)) (e:Ending) (w':World):Prop:=(match o with
 | none=>e=.returned (.tuple #[.agg #[.string ⟨#[]⟩,.int .i64 0,.string ⟨#[]⟩,.slice none 0 0,.string ⟨#[]⟩],.bool false])
 | some t=>∃ (a:Option Addr) (c:Nat),e=.returned (.tuple #[.agg #[.string ⟨t.toArray⟩,.int .i64 (nodeAt t).k,.string ⟨(nodeAt t).p.toArray⟩,.slice a (nodeAt t).ls.length c,.string ⟨(nodeAt t).v.toArray⟩],.bool true])∧IsStrs w0 a (nodeAt t).ls∧(readNode t).isSome=true)∧Below w.heap.size w w'
set_option maxRecDepth 100000 in
set_option maxHeartbeats 1000000 in
theorem impl_atV0 (mb : Nat) (ps : List PairL) (h : List UInt8) (w0 w : World) (hst : storeOkL ps = true) (hhl : h.length ≤ 1048576) (hM : HeldM w0 mb ps ps.length) (hB : Below w0.heap.size w0 w) :
 Calls Tryz.prog 63 #[.map (some mb),.string ⟨h.toArray⟩] w fun e w'=>AtPost0 w0 w (findL ps h) e w':=by
 by_cases h32:h.length=32
 · have fin : ∀ (D : DataW Value) (u0 : ByteArray) (u1 : Int) (u2 : ByteArray) (u3 : Option Addr) (m3 c3 : Nat) (u4 : ByteArray) (ok : Bool), w.ownsMap Tryz.prog 107 uvR mb ps.length D → Maps.has D (keyLit h) = ok → (D.atKey (keyLit h) (.held (.agg #[.string ⟨#[]⟩, .int .i64 0, .string ⟨#[]⟩, .slice none 0 0, .string ⟨#[]⟩])) = .held (.agg #[.string u0, .int .i64 u1, .string u2, .slice u3 m3 c3, .string u4])) →
    Calls Tryz.prog 63 #[.map (some mb),.string ⟨h.toArray⟩] w fun e w'=>e=.returned (.tuple #[.agg #[.string u0,.int .i64 u1,.string u2,.slice u3 m3 c3,.string u4],.bool ok])∧Below w.heap.size w w':=by
    intro D u0 u1 u2 u3 m3 c3 u4 ok hown h1 h2
    have K:=impl_keyOfHash h (w.alloc (.cells #[.string ⟨#[]⟩,.int .i64 0,.string ⟨#[]⟩,.slice none 0 0,.string ⟨#[]⟩] 105)) h32
    have B0:Hid (Below w.heap.size w (w.alloc (.cells #[.string ⟨#[]⟩,.int .i64 0,.string ⟨#[]⟩,.slice none 0 0,.string ⟨#[]⟩] 105))):=(Below.refl _ _).alloc (Nat.le_refl _) _
    have Q0:Hid ((w.alloc (.cells #[.string ⟨#[]⟩,.int .i64 0,.string ⟨#[]⟩,.slice none 0 0,.string ⟨#[]⟩] 105)).heap[w.heap.size]? = some (.cells #[.string ⟨#[]⟩,.int .i64 0,.string ⟨#[]⟩,.slice none 0 0,.string ⟨#[]⟩] 105 (0,0))):=heap_alloc_new w _
    have L0:Hid (w.heap.size<(w.alloc (.cells #[.string ⟨#[]⟩,.int .i64 0,.string ⟨#[]⟩,.slice none 0 0,.string ⟨#[]⟩] 105)).heap.size):=by rw[Hid];simp
    have H1:Hid (Maps.has D (keyLit h)=ok):=h1
    have H2:Hid (D.atKey (keyLit h) (.held (.agg #[.string ⟨#[]⟩,.int .i64 0,.string ⟨#[]⟩,.slice none 0 0,.string ⟨#[]⟩]))=.held (.agg #[.string u0,.int .i64 u1,.string u2,.slice u3 m3 c3,.string u4])):=h2
    have HO:Hid (∀ W,Below w.heap.size w W→W.ownsMap Tryz.prog 107 uvR mb ps.length D):=fun W hW=>hown.kept (grown_of_below hW none) (by simp)
    have HK:Hid (keyOf Tryz.prog 107 (.agg (bcells h).toArray)=some (keyLit h)):=key_reads h h32
    obtain⟨cs,hcs⟩:∃ cs,cs=(bcells h).toArray:=⟨_,rfl⟩
    rw[←hcs] at K HK
    clear h1 h2 hown hst hcs hM hB
    go_enter Tryz.func63,Tryz.ntmps63
    go_wp2_with fail
    refine K.mono ?_
    rintro e w1 ⟨rfl,b1⟩
    have B1:Hid (Below w.heap.size w w1):=B0.out.trans (b1.mono B0.out.size)
    have M1:Hid (w1.ownsMap Tryz.prog 107 uvR mb ps.length D):=HO.out _ B1.out
    have Q1:Hid (w1.heap[w.heap.size]? = some (.cells #[.string ⟨#[]⟩,.int .i64 0,.string ⟨#[]⟩,.slice none 0 0,.string ⟨#[]⟩] 105 (0,0))):=(b1.block _ L0.out).trans Q0.out
    clear HO B0 Q0 b1 L0
    go_wp2_with (first
     | (at_lookup; refine wpList_lookup_own_ok _ rfl _ _ 72 rfl 107 105 keyedH Tryz.underlying72 uvR (zeroHN _) (.held (.agg #[.string ⟨#[]⟩, .int .i64 0, .string ⟨#[]⟩, .slice none 0 0, .string ⟨#[]⟩])) [] rfl mb ps.length D rfl M1.out _ (keyLit h) rfl HK.out ?_; intro vv qs hv; rw [H2.out] at hv; rw [H1.out]; obtain rfl := uvR_inv hv; clear hv
        have Q2:Hid ((w1.alloc (.cells #[.string u0,.int .i64 u1,.string u2,.slice u3 m3 c3,.string u4] 105)).heap[w.heap.size]? = some (.cells #[.string ⟨#[]⟩,.int .i64 0,.string ⟨#[]⟩,.slice none 0 0,.string ⟨#[]⟩] 105 (0,0))):=(Below.heap_alloc _ _ _ (lt_of_block Q1.out)).trans Q1.out
        have B2:Hid (Below w.heap.size w (w1.alloc (.cells #[.string u0,.int .i64 u1,.string u2,.slice u3 m3 c3,.string u4] 105))):=B1.out.alloc B1.out.size _
        obtain⟨q0,q1,q2,q3,q4,qf⟩:=five_cells Q2.out
        have qf0:=qf 0
        have qf1:=qf 1
        have qf2:=qf 2
        have qf3:=qf 3
        have qf4:=qf 4
        clear qf)
     | go_in)
    exact bodyPost_ret (v:=.tuple #[.agg #[.string u0,.int .i64 u1,.string u2,.slice u3 m3 c3,.string u4],.bool ok]) (results_csN rfl _ _ w.heap.size 105 _ _ rfl (five_set _ _ _ _ _ Q2.out) Tryz.underlying105 rfl (by kernel_rfl) (.bool ok) rfl) rfl ⟨rfl,fiveS_below B2.out (Nat.le_refl _) _ _ _ _ _⟩
   obtain⟨D,hD,hcase⟩:=heldM_at hst hM h h32
   rcases hcase with ⟨hf,h1,h2⟩ | ⟨t,v,hf,hr,h1,h2,a,m,c,rfl,ho⟩
   · rw[hf]
     exact (fin D _ _ _ _ _ _ _ _ (hD.kept (grown_of_below hB none) (by simp)) h1 (h2 _)).mono fun e w' h=>h
   · rw[hf]
     obtain⟨rfl,_,hi⟩:=strs_own ho
     exact (fin D _ _ _ _ _ _ _ _ (hD.kept (grown_of_below hB none) (by simp)) h1 (h2 _)).mono fun e w' h=>⟨⟨a,c,h.1,hi,hr⟩,h.2⟩
 · have hf:=findL_short ps hst h h32
   rw[hf]
   have h32':¬ (h.length:Int)=32:=by omega
   clear hf hst hM hB
   go_enter Tryz.func63,Tryz.ntmps63
   go_wp2
   exact bodyPost_ret (v:=.tuple #[.agg #[.string ⟨#[]⟩,.int .i64 0,.string ⟨#[]⟩,.slice none 0 0,.string ⟨#[]⟩],.bool false]) (results_csN rfl _ _ w.heap.size 105 _ _ rfl (heap_alloc_new w _) Tryz.underlying105 rfl (by kernel_rfl) (.bool false) rfl) rfl ⟨rfl,(Below.refl _ _).alloc (Nat.le_refl _) _⟩
theorem findL_small (ps:List PairL) (hm:∀ p∈ps,p.1.length≤1048576∧p.2.length≤1048576) (h t:List UInt8) (hf:findL ps h=some t):t.length≤1048576:=by
 unfold findL at hf
 rw[Option.map_eq_some_iff] at hf
 obtain⟨p,hp,rfl⟩:=hf
 exact (hm p (List.mem_of_find?_eq_some hp)).2
theorem read_post {w w':World} {t:List UInt8} {e:Ending} (h:ReadPost w (readNode t) e w'):∃ (a:Option Addr) (c:Nat),e=.returned (.tuple #[.agg #[.int .i64 (nodeAt t).k,.string ⟨(nodeAt t).p.toArray⟩,.slice a (nodeAt t).ls.length c,.string ⟨(nodeAt t).v.toArray⟩],.bool (readNode t).isSome])∧w'.ownsRow w.heap.size 9 1 (.slice a (nodeAt t).ls.length c) (nodeAt t).ls.length (scells (nodeAt t).ls)∧Below w.heap.size w w':=by
 obtain⟨a,m,c,he,ho,hb⟩:=h
 obtain⟨hm,_,_⟩:=strs_own ho
 subst hm
 exact⟨a,c,he,ho,hb⟩
end Go.Proofs.YthbfhofogoagdaaGreatDoor
