import Derived.Shelf.Strconv.AtoiAll
import Derived.Shelf.Strconv.ErrVarAll
import Derived.Shelf.Strconv.Itoa3
import Derived.Lib.AtoiErrMem
import Derived.Lib.AppendIntMem
import Derived.Lib.AtoiAllCases
import Derived.Test.YthmlndmlnlfhnaaGreatDoorK33ab2a89
import Derived.Test.YthmlndmlnlfhnaaGreatDoorK04e6d983
import Derived.Test.YthmlndmlnlfhnaaGreatDoorK4f94c9e3
set_option maxRecDepth 100000
set_option maxHeartbeats 16000000
namespace Go.Proofs.YthmlndmlnlfhnaaGreatDoor
open Go.RowKit Go.Shelf
def jgt:List String:=["internal/strconv.uint64pow10","strconv.ErrSyntax","strconv.ErrRange","ratebook/text.policies"]
def jlp (g:Nat):Prop:=∀ n∈jgt,∀ k,Tryz.prog.globalNamed n=some k→k<g
structure VarsOk (w:World):Prop where
 tab:Lib.TabIs Tryz.prog w "internal/strconv.uint64pow10" .u64 Lib.pow10Tab
 syn:∃ tp a,w.var? Tryz.prog "strconv.ErrSyntax" = some #[.iface tp a]
 rng:∃ tp a,w.var? Tryz.prog "strconv.ErrRange" = some #[.iface tp a]
 pol:w.var? Tryz.prog "ratebook/text.policies" = some ((([] :: polW).map fun l=>Value.string (bs l)).toArray)
theorem ycw {P:Program} {w w':World} {n:String} (hb:∀ k,P.globalNamed n=some k→w'.heap[k]? = w.heap[k]?):w'.var? P n=w.var? P n:=by
 unfold World.var?
 cases h:P.globalNamed n with
 | none=>rfl
 | some k=>simp only [Option.bind_some,hb k h]
theorem ygb {P:Program} {w:World} {n:String} {cs:Array Value} (h:w.var? P n=some cs):∀ k,P.globalNamed n=some k→k<w.heap.size:=by
 intro k hk
 unfold World.var? at h
 rw [hk] at h
 simp only [Option.bind_some] at h
 rcases Nat.lt_or_ge k w.heap.size with hlt | hge
 ·exact hlt
 ·rw [Array.getElem?_eq_none hge] at h
  simp at h
theorem VarsOk.keep {w w':World} {g:Nat} (h:VarsOk w) (ha:jlp g) (hk:∀ k,k<g→w'.heap[k]? = w.heap[k]?):VarsOk w':=by
 have e:∀ n∈jgt,w'.var? Tryz.prog n=w.var? Tryz.prog n:=fun n hn=>ycw fun k hk'=>hk k (ha n hn k hk')
 obtain ⟨h1,h2,h3,h4⟩:=h
 refine ⟨?_,?_,?_,?_⟩
 ·unfold Lib.TabIs at h1 ⊢
  rw [e _ (by simp [jgt])];exact h1
 ·rw [e _ (by simp [jgt])];exact h2
 ·rw [e _ (by simp [jgt])];exact h3
 ·rw [e _ (by simp [jgt])];exact h4
theorem VarsOk.above {w:World} (h:VarsOk w):jlp w.heap.size:=by
 intro n hn k hk
 simp only [jgt,List.mem_cons,List.not_mem_nil,or_false] at hn
 obtain ⟨h1,⟨_,_,h2⟩,⟨_,_,h3⟩,h4⟩:=h
 rcases hn with rfl | rfl | rfl | rfl
 ·exact ygb h1 k hk
 ·exact ygb h2 k hk
 ·exact ygb h3 k hk
 ·exact ygb h4 k hk
theorem jlp.mono {g g':Nat} (h:jlp g) (hg:g≤g'):jlp g':=fun n hn k hk=>Nat.lt_of_lt_of_le (h n hn k hk) hg
theorem VarsOk.next {w w':World} (h:VarsOk w) (hb:Below w.heap.size w w'):VarsOk w':=h.keep h.above fun k hk=>hb.block k hk
def PX (w:World) (g:Nat) (p:PS):Prop:=PA w g p∧VarsOk w∧jlp g
theorem PX.grown {w w':World} {g:Nat} {p p':PS} (h:PX w g p) (h':PA w' g p') (hg:w.grownBy w' (some g)):PX w' g p' :=
 ⟨h',h.2.1.keep h.2.2 fun k hk=>hg.block k (Nat.lt_trans hk h.1.1) (by intro e;injection e with e;omega),h.2.2⟩
theorem PX.next {w w':World} {g:Nat} {p:PS} (h:PX w g p) (hb:Below w.heap.size w w'):PX w' g p:=h.grown (h.1.next hb) (jak hb)
theorem jdw (l:Bs) (hl:l.length≤2000) (v:Int) (h:Lib.atoiAll l = .ok v) (w:World) :
  Calls Tryz.prog 178 #[.string (bs l)] w fun e w'=>e = .returned (.tuple #[.int .i64 v,.nilIface])∧Below w.heap.size w w':=by
 refine (Any.strconv_Atoi_ok Tryz.atoi (bs l) (by rw [jeq];omega) v (by rw [jdb];exact h) w).mono ?_
 rintro e w' ⟨he,rfl | ⟨t,rfl⟩⟩
 ·exact ⟨he,Below.refl _ _⟩
 ·exact ⟨he,Lib.bytesWorld_below _ _ _⟩
theorem jir (l:Bs) (hl:l.length≤2000) (h:∀ v,Lib.atoiAll l≠.ok v) (w:World) (hv:VarsOk w) :
  Calls Tryz.prog 178 #[.string (bs l)] w fun e w'=>∃ n t N,e = .returned (.tuple #[.int .i64 n,.iface t (.pointer (some ⟨N,0,none⟩))])∧Below w.heap.size w w':=by
 cases hc:Lib.atoiAll l with
 | ok v=>exact absurd hc (h v)
 | range =>
  obtain ⟨tp,a,hs⟩:=hv.rng
  refine (Any.strconv_Atoi_range_var Tryz.atoi (bs l) (by rw [jeq];omega) (by rw [jdb];exact hc) tp a w hs).mono ?_
  rintro e w' ⟨N,he,_,_,hb⟩
  exact ⟨_,_,N,he,hb⟩
 | _ =>
  obtain ⟨tp,a,hs⟩:=hv.syn
  refine (Any.strconv_Atoi_syntax_var Tryz.atoi (bs l) (by rw [jeq];omega) (by rw [jdb];exact hc) tp a w hs).mono ?_
  rintro e w' ⟨N,he,_,_,hb⟩
  exact ⟨_,_,N,he,hb⟩
theorem je2 (n:Int) (h0:-9223372036854775808≤n) (h1:n≤9223372036854775807) (w:World) (hv:VarsOk w) :
  Calls Tryz.prog 152 #[.int .i64 n] w fun e w'=>e = .returned (.string (bs (Lib.itoa n)))∧Below w.heap.size w w':=by
 refine (Any.strconv_Itoa Tryz.itoa n h0 h1 w hv.tab).mono ?_
 rintro e w' ⟨he,k,os,rfl⟩
 exact ⟨he,Lib.below_grow _ _ (Nat.le_refl _) _ _⟩
theorem ybw {l:Bs} {k n0:Nat} (hn0:n0=if [45].isPrefixOf l then 1 else 0) (hk:n0≤k) (h1:((l.drop n0).take (k-n0)).all digB=true) (h2:l.length≤k∨∃ b,l[k]? = some b∧digB b=false) (hkl:k≤l.length):jm8 l=k:=by
 have:=(ygd (f:=digB) (l:=l.drop n0) (k:=k-n0) h1 (by
  rcases h2 with h2 | ⟨b,hb,hf⟩
  ·left;rw [List.length_drop];omega
  ·right;exact ⟨b,by rw [List.getElem?_drop,show n0+(k-n0)=k by omega];exact hb,hf⟩)).1
 have hlen:((l.drop n0).takeWhile digB).length=k-n0:=by
  rw [this,List.length_take,List.length_drop];omega
 unfold jm8
 by_cases hp:[45].isPrefixOf l=true
 ·rw [if_pos hp] at hn0 ⊢
  subst hn0
  rw [hlen];omega
 ·rw [if_neg hp] at hn0 ⊢
  subst hn0
  rw [List.drop_zero] at hlen
  rw [hlen];omega
theorem jl3 (s:Bs):(∃ v,Lib.atoiAll s = .ok v∧Lib.itoa v=s∧numV s=some v)∨(∃ v,Lib.atoiAll s = .ok v∧Lib.itoa v≠s∧numV s=none)∨((∀ v,Lib.atoiAll s≠.ok v)∧numV s=none):=by
 cases h:Lib.atoiAll s with
 | ok v =>
  by_cases hv:Lib.itoa v=s
  ·exact .inl ⟨v,rfl,hv,by unfold numV;rw [h];simp only [hv,if_true]⟩
  ·exact .inr (.inl ⟨v,rfl,hv,by unfold numV;rw [h];simp only [hv,if_false]⟩)
 | range=>exact .inr (.inr ⟨(fun v hv=>by cases hv),by unfold numV;rw [h]⟩)
 | _=>exact .inr (.inr ⟨(fun v hv=>by cases hv),by unfold numV;rw [h]⟩)
theorem ys1 (r:Bs) (b:Bool) (k:Nat) (h:Hid (jm8 (jau r)=k)) :
  Hid ((∀ v,numV ((jau r).take k)=some v→jaw ⟨r,b⟩=(v,⟨(jau r).drop k,b⟩))∧(numV ((jau r).take k)=none→jaw ⟨r,b⟩=(0,⟨(jau r).drop k,true⟩))):=by
 have h:=h.out
 subst h
 refine ⟨fun v hv=>?_,fun hv=>?_⟩ <;> (unfold jaw;simp only [hv])
theorem jp4 {l:Bs} {k n0:Nat} {b:UInt8} (hk:n0≤k) (h:((l.drop n0).take (k-n0)).all digB=true) (hb:l[k]? = some b) (hf:digB b=true):((l.drop n0).take (k+1-n0)).all digB=true:=by
 rw [show k+1-n0=k-n0+1 by omega]
 exact yf9 h (by rw [List.getElem?_drop,show n0+(k-n0)=k by omega];exact hb) hf
theorem jqi (p:PS) (g:Nat) (w:World) (h:PX w g p) (hs:p.rest.length≤2000) :
  Calls Tryz.prog 139 #[.pointer (some ⟨g,0,none⟩)] w fun e w'=>e = .returned (.int .i64 (jaw p).1)∧PA w' g (jaw p).2∧w.grownBy w' (some g):=by
 have hlen:=jld p.rest
 obtain ⟨r,b⟩:=p
 have H:=Lib.hid h
 simp only at hs hlen
 have HN0:=ys1 r b
 obtain ⟨n0,hn0⟩:∃ n0:Nat,n0=if [45].isPrefixOf (jau r) then 1 else 0:=⟨_,rfl⟩
 have HN1:=Lib.hid hn0
 have hn1:n0≤(jau r).length:=by
  rw [hn0]
  split
  ·rename_i h;exact (List.isPrefixOf_iff_prefix.1 h).length_le
  ·omega
 have hq:[45].isPrefixOf (jau r)=decide (n0=1):=by
  rw [hn0];cases [45].isPrefixOf (jau r) <;> rfl
 have hn01:n0=0∨n0=1:=by rw [hn0];split <;> simp
 clear hn0
 have HQ:=Lib.hid hq
 clear hq
 obtain ⟨R,hR⟩:∃ R,R=jaw ⟨r,b⟩:=⟨_,rfl⟩
 have HR:=Lib.hid hR
 clear hR
 go_enter Tryz.func139,Tryz.ntmps139
 go_wp2_with fail
 refine (yb4 ⟨r,b⟩ g _ H.out.1).mono ?_
 rintro e w1 ⟨rfl,h1,hb1⟩
 have H1:=Lib.hid (H.out.grown h1 hb1)
 have B1:=Lib.hid hb1
 obtain ⟨hg1,d0,d1,e0,e1⟩:=h1
 simp only at d0 d1
 clear hb1
 have hpre:=jmp (jau r) [45] w1
 rw [HQ.out] at hpre
 obtain ⟨S,hS⟩:∃ S,S=bs (jau r):=⟨_,rfl⟩
 have hsz:S.size=(jau r).length:=by rw [hS];exact jeq _
 rw [← hS] at d0 hpre
 have HS:=Lib.hid hS
 clear hS
 have hszi:(S.size:Int)≤2000:=by omega
 go_wp2_with fail
 refine hpre.mono ?_
 rintro e w2 ⟨rfl,rfl⟩
 clear hpre
 rcases hn01 with rfl | rfl
 ·rw [decide_eq_false (show ¬ (0:Nat)=1 by decide)]
  go_wp2
  go_loopw [3] (fun i wr=>∃ k:Nat,0≤k∧k≤S.size∧i = .int .i64 k∧Hid ((((jau r).drop 0).take (k-0)).all digB=true)∧wr=w2) (fun i _=>S.size-(intOf i).toNat)
  case atStart=>exact ⟨0,Nat.le_refl _,by omega,rfl,by show _=true;simp,rfl⟩
  case round =>
   obtain ⟨k,hk0,hk,rfl,hf,rfl⟩:=hrel
   have hcut:(S.size≤k∨∃ b,(jau r)[k]? = some b∧digB b=false)→Hid (jm8 (jau r)=k):=fun hh=>ybw HN1.out hk0 hf.out (by rcases hh with hh | hh;exact .inl (by omega);exact .inr hh) (by omega)
   by_cases hlt:k<S.size
   ·have hlt':(k:Int)<S.size:=by omega
    have HX:Hid ((jau r)[k]? = some (S[k])):=by
     have h1:=HS.out
     subst h1
     exact yqz _ _ hlt
    by_cases h1:S[k].toNat<48
    ·have h1':(S[k].toNat:Int)<48:=by omega
     have HL:Hid (digB S[k]=false):=by simp [digB,Hid];omega
     have HC:=hcut (.inr ⟨_,HX.out,HL.out⟩)
     clear hcut
     go_wp2_with fail
     refine (jv2 ⟨jau r,b⟩ k g _ H1.out.1 (by simp only;omega) (by simp only;omega)).mono ?_
     rintro e w3 ⟨rfl,h3,hb3⟩
     have X3:=Lib.hid (H1.out.grown h3 hb3)
     have B3:=Lib.hid (World.grownBy.trans' B1.out hb3)
     clear h3 hb3
     have hs3:((jau r).take k).length≤2000:=by rw [List.length_take];omega
     simp only at X3
     have HN:=HN0 k HC
     clear HN0
     obtain ⟨D,hD⟩:∃ D,D=(jau r).drop k:=⟨_,rfl⟩
     rw [← hD] at X3 HN
     generalize (jau r).take k=s at hs3 X3 HN ⊢
     clear hD
     rcases jl3 s with ⟨v,ha,hv⟩ | ⟨v,ha,hv,hn⟩ | ⟨ha,hn⟩
     ·have hnp:=HN.out.1 v hv.2
      have HP:=Lib.hid hnp
      clear HN hnp
      obtain ⟨hb0,hb1⟩:=Lib.atoiAll_bounds ha
      have hx:(bs (Lib.itoa v)).toList=(bs s).toList:=by rw [hv.1]
      have hx2:bs (Lib.itoa v)=bs s:=by rw [hv.1]
      clear hv
      go_wp2_with fail
      refine (jdw s hs3 v ha _).mono ?_
      rintro e w4 ⟨rfl,hb4⟩
      have X4:=Lib.hid (X3.out.next hb4)
      have B4:=Lib.hid (World.grownBy.trans' B3.out (jak hb4))
      clear hb4
      go_wp2_with fail
      refine (je2 v hb0 hb1 _ X4.out.2.1).mono ?_
      rintro e w5 ⟨rfl,hb5⟩
      rw [hx2]
      clear hx hx2
      have X5:=Lib.hid (X4.out.next hb5)
      have B5:=Lib.hid (World.grownBy.trans' B4.out (jak hb5))
      clear hb5
      go_wp2
      go_ret
      exact ⟨by rw [HP.out];rfl,by rw [HP.out];exact X5.out.1,B5.out⟩
     ·have hnp:=HN.out.2 hn
      have HP:=Lib.hid hnp
      clear HN hnp
      obtain ⟨hb0,hb1⟩:=Lib.atoiAll_bounds ha
      have hx:((bs (Lib.itoa v)).toList == (bs s).toList)=false:=by rw [jbm,jbm];exact beq_eq_false_iff_ne.2 hv
      have hx1:=jbm (Lib.itoa v)
      have hx2:=jbm s
      have hx3:(Lib.itoa v == s)=false:=beq_eq_false_iff_ne.2 hv
      go_wp2_with fail
      refine (jdw s hs3 v ha _).mono ?_
      rintro e w4 ⟨rfl,hb4⟩
      have X4:=Lib.hid (X3.out.next hb4)
      have B4:=Lib.hid (World.grownBy.trans' B3.out (jak hb4))
      clear hb4
      go_wp2_with fail
      refine (je2 v hb0 hb1 _ X4.out.2.1).mono ?_
      rintro e w5 ⟨rfl,hb5⟩
      have X5:=Lib.hid (X4.out.next hb5)
      have B5:=Lib.hid (World.grownBy.trans' B4.out (jak hb5))
      clear hb5
      obtain ⟨⟨q0,q1,q2,q3,q4⟩,q5,q6⟩:=X5.out
      clear q5 q6
      go_wp2
      go_ret
      exact ⟨by rw [HP.out];rfl,by rw [HP.out];exact X5.out.1.set1 true,World.grownBy.trans' B5.out (jcv ..)⟩
     ·have hnp:=HN.out.2 hn
      have HP:=Lib.hid hnp
      clear HN hnp
      go_wp2_with fail
      refine (jir s hs3 ha _ X3.out.2.1).mono ?_
      rintro e w4 ⟨n,ti,N,rfl,hb4⟩
      have X4:=Lib.hid (X3.out.next hb4)
      have B4:=Lib.hid (World.grownBy.trans' B3.out (jak hb4))
      clear hb4
      obtain ⟨⟨q0,q1,q2,q3,q4⟩,q5,q6⟩:=X4.out
      clear q5 q6
      go_wp2
      go_ret
      exact ⟨by rw [HP.out];rfl,by rw [HP.out];exact X4.out.1.set1 true,World.grownBy.trans' B4.out (jcv ..)⟩
    ·by_cases h2:57<S[k].toNat
     ·have h1':48≤(S[k].toNat:Int):=by omega
      have h2':57<(S[k].toNat:Int):=by omega
      have HL:Hid (digB S[k]=false):=by simp [digB,Hid];omega
      have HC:=hcut (.inr ⟨_,HX.out,HL.out⟩)
      clear hcut
      go_wp2_with fail
      refine (jv2 ⟨jau r,b⟩ k g _ H1.out.1 (by simp only;omega) (by simp only;omega)).mono ?_
      rintro e w3 ⟨rfl,h3,hb3⟩
      have X3:=Lib.hid (H1.out.grown h3 hb3)
      have B3:=Lib.hid (World.grownBy.trans' B1.out hb3)
      clear h3 hb3
      have hs3:((jau r).take k).length≤2000:=by rw [List.length_take];omega
      simp only at X3
      have HN:=HN0 k HC
      clear HN0
      obtain ⟨D,hD⟩:∃ D,D=(jau r).drop k:=⟨_,rfl⟩
      rw [← hD] at X3 HN
      generalize (jau r).take k=s at hs3 X3 HN ⊢
      clear hD
      rcases jl3 s with ⟨v,ha,hv⟩ | ⟨v,ha,hv,hn⟩ | ⟨ha,hn⟩
      ·have hnp:=HN.out.1 v hv.2
       have HP:=Lib.hid hnp
       clear HN hnp
       obtain ⟨hb0,hb1⟩:=Lib.atoiAll_bounds ha
       have hx:(bs (Lib.itoa v)).toList=(bs s).toList:=by rw [hv.1]
       have hx2:bs (Lib.itoa v)=bs s:=by rw [hv.1]
       clear hv
       go_wp2_with fail
       refine (jdw s hs3 v ha _).mono ?_
       rintro e w4 ⟨rfl,hb4⟩
       have X4:=Lib.hid (X3.out.next hb4)
       have B4:=Lib.hid (World.grownBy.trans' B3.out (jak hb4))
       clear hb4
       go_wp2_with fail
       refine (je2 v hb0 hb1 _ X4.out.2.1).mono ?_
       rintro e w5 ⟨rfl,hb5⟩
       rw [hx2]
       clear hx hx2
       have X5:=Lib.hid (X4.out.next hb5)
       have B5:=Lib.hid (World.grownBy.trans' B4.out (jak hb5))
       clear hb5
       go_wp2
       go_ret
       exact ⟨by rw [HP.out];rfl,by rw [HP.out];exact X5.out.1,B5.out⟩
      ·have hnp:=HN.out.2 hn
       have HP:=Lib.hid hnp
       clear HN hnp
       obtain ⟨hb0,hb1⟩:=Lib.atoiAll_bounds ha
       have hx:((bs (Lib.itoa v)).toList == (bs s).toList)=false:=by rw [jbm,jbm];exact beq_eq_false_iff_ne.2 hv
       have hx1:=jbm (Lib.itoa v)
       have hx2:=jbm s
       have hx3:(Lib.itoa v == s)=false:=beq_eq_false_iff_ne.2 hv
       go_wp2_with fail
       refine (jdw s hs3 v ha _).mono ?_
       rintro e w4 ⟨rfl,hb4⟩
       have X4:=Lib.hid (X3.out.next hb4)
       have B4:=Lib.hid (World.grownBy.trans' B3.out (jak hb4))
       clear hb4
       go_wp2_with fail
       refine (je2 v hb0 hb1 _ X4.out.2.1).mono ?_
       rintro e w5 ⟨rfl,hb5⟩
       have X5:=Lib.hid (X4.out.next hb5)
       have B5:=Lib.hid (World.grownBy.trans' B4.out (jak hb5))
       clear hb5
       obtain ⟨⟨q0,q1,q2,q3,q4⟩,q5,q6⟩:=X5.out
       clear q5 q6
       go_wp2
       go_ret
       exact ⟨by rw [HP.out];rfl,by rw [HP.out];exact X5.out.1.set1 true,World.grownBy.trans' B5.out (jcv ..)⟩
      ·have hnp:=HN.out.2 hn
       have HP:=Lib.hid hnp
       clear HN hnp
       go_wp2_with fail
       refine (jir s hs3 ha _ X3.out.2.1).mono ?_
       rintro e w4 ⟨n,ti,N,rfl,hb4⟩
       have X4:=Lib.hid (X3.out.next hb4)
       have B4:=Lib.hid (World.grownBy.trans' B3.out (jak hb4))
       clear hb4
       obtain ⟨⟨q0,q1,q2,q3,q4⟩,q5,q6⟩:=X4.out
       clear q5 q6
       go_wp2
       go_ret
       exact ⟨by rw [HP.out];rfl,by rw [HP.out];exact X4.out.1.set1 true,World.grownBy.trans' B4.out (jcv ..)⟩
     ·have h1':48≤(S[k].toNat:Int):=by omega
      have h2':(S[k].toNat:Int)≤57:=by omega
      have HL:Hid (digB S[k]=true):=by simp [digB,Hid];omega
      clear hcut
      go_wp2
      exact ⟨⟨k+1,by omega,by omega,by go_num,jp4 hk0 hf.out HX.out HL.out,by first | trivial | rfl⟩,by simp [intOf];omega⟩
   ·have hge:(S.size:Int)≤k:=by omega
    have HC:=hcut (.inl (by omega))
    clear hcut
    go_wp2_with fail
    refine (jv2 ⟨jau r,b⟩ k g _ H1.out.1 (by simp only;omega) (by simp only;omega)).mono ?_
    rintro e w3 ⟨rfl,h3,hb3⟩
    have X3:=Lib.hid (H1.out.grown h3 hb3)
    have B3:=Lib.hid (World.grownBy.trans' B1.out hb3)
    clear h3 hb3
    have hs3:((jau r).take k).length≤2000:=by rw [List.length_take];omega
    simp only at X3
    have HN:=HN0 k HC
    clear HN0
    obtain ⟨D,hD⟩:∃ D,D=(jau r).drop k:=⟨_,rfl⟩
    rw [← hD] at X3 HN
    generalize (jau r).take k=s at hs3 X3 HN ⊢
    clear hD
    rcases jl3 s with ⟨v,ha,hv⟩ | ⟨v,ha,hv,hn⟩ | ⟨ha,hn⟩
    ·have hnp:=HN.out.1 v hv.2
     have HP:=Lib.hid hnp
     clear HN hnp
     obtain ⟨hb0,hb1⟩:=Lib.atoiAll_bounds ha
     have hx:(bs (Lib.itoa v)).toList=(bs s).toList:=by rw [hv.1]
     have hx2:bs (Lib.itoa v)=bs s:=by rw [hv.1]
     clear hv
     go_wp2_with fail
     refine (jdw s hs3 v ha _).mono ?_
     rintro e w4 ⟨rfl,hb4⟩
     have X4:=Lib.hid (X3.out.next hb4)
     have B4:=Lib.hid (World.grownBy.trans' B3.out (jak hb4))
     clear hb4
     go_wp2_with fail
     refine (je2 v hb0 hb1 _ X4.out.2.1).mono ?_
     rintro e w5 ⟨rfl,hb5⟩
     rw [hx2]
     clear hx hx2
     have X5:=Lib.hid (X4.out.next hb5)
     have B5:=Lib.hid (World.grownBy.trans' B4.out (jak hb5))
     clear hb5
     go_wp2
     go_ret
     exact ⟨by rw [HP.out];rfl,by rw [HP.out];exact X5.out.1,B5.out⟩
    ·have hnp:=HN.out.2 hn
     have HP:=Lib.hid hnp
     clear HN hnp
     obtain ⟨hb0,hb1⟩:=Lib.atoiAll_bounds ha
     have hx:((bs (Lib.itoa v)).toList == (bs s).toList)=false:=by rw [jbm,jbm];exact beq_eq_false_iff_ne.2 hv
     have hx1:=jbm (Lib.itoa v)
     have hx2:=jbm s
     have hx3:(Lib.itoa v == s)=false:=beq_eq_false_iff_ne.2 hv
     go_wp2_with fail
     refine (jdw s hs3 v ha _).mono ?_
     rintro e w4 ⟨rfl,hb4⟩
     have X4:=Lib.hid (X3.out.next hb4)
     have B4:=Lib.hid (World.grownBy.trans' B3.out (jak hb4))
     clear hb4
     go_wp2_with fail
     refine (je2 v hb0 hb1 _ X4.out.2.1).mono ?_
     rintro e w5 ⟨rfl,hb5⟩
     have X5:=Lib.hid (X4.out.next hb5)
     have B5:=Lib.hid (World.grownBy.trans' B4.out (jak hb5))
     clear hb5
     obtain ⟨⟨q0,q1,q2,q3,q4⟩,q5,q6⟩:=X5.out
     clear q5 q6
     go_wp2
     go_ret
     exact ⟨by rw [HP.out];rfl,by rw [HP.out];exact X5.out.1.set1 true,World.grownBy.trans' B5.out (jcv ..)⟩
    ·have hnp:=HN.out.2 hn
     have HP:=Lib.hid hnp
     clear HN hnp
     go_wp2_with fail
     refine (jir s hs3 ha _ X3.out.2.1).mono ?_
     rintro e w4 ⟨n,ti,N,rfl,hb4⟩
     have X4:=Lib.hid (X3.out.next hb4)
     have B4:=Lib.hid (World.grownBy.trans' B3.out (jak hb4))
     clear hb4
     obtain ⟨⟨q0,q1,q2,q3,q4⟩,q5,q6⟩:=X4.out
     clear q5 q6
     go_wp2
     go_ret
     exact ⟨by rw [HP.out];rfl,by rw [HP.out];exact X4.out.1.set1 true,World.grownBy.trans' B4.out (jcv ..)⟩
 ·rw [decide_eq_true (show (1:Nat)=1 from rfl)]
  go_wp2
  go_loopw [3] (fun i wr=>∃ k:Nat,1≤k∧k≤S.size∧i = .int .i64 k∧Hid ((((jau r).drop 1).take (k-1)).all digB=true)∧wr=w2) (fun i _=>S.size-(intOf i).toNat)
  case atStart=>exact ⟨1,Nat.le_refl _,by omega,rfl,by show _=true;simp,rfl⟩
  case round =>
   obtain ⟨k,hk0,hk,rfl,hf,rfl⟩:=hrel
   have hcut:(S.size≤k∨∃ b,(jau r)[k]? = some b∧digB b=false)→Hid (jm8 (jau r)=k):=fun hh=>ybw HN1.out hk0 hf.out (by rcases hh with hh | hh;exact .inl (by omega);exact .inr hh) (by omega)
   by_cases hlt:k<S.size
   ·have hlt':(k:Int)<S.size:=by omega
    have HX:Hid ((jau r)[k]? = some (S[k])):=by
     have h1:=HS.out
     subst h1
     exact yqz _ _ hlt
    by_cases h1:S[k].toNat<48
    ·have h1':(S[k].toNat:Int)<48:=by omega
     have HL:Hid (digB S[k]=false):=by simp [digB,Hid];omega
     have HC:=hcut (.inr ⟨_,HX.out,HL.out⟩)
     clear hcut
     go_wp2_with fail
     refine (jv2 ⟨jau r,b⟩ k g _ H1.out.1 (by simp only;omega) (by simp only;omega)).mono ?_
     rintro e w3 ⟨rfl,h3,hb3⟩
     have X3:=Lib.hid (H1.out.grown h3 hb3)
     have B3:=Lib.hid (World.grownBy.trans' B1.out hb3)
     clear h3 hb3
     have hs3:((jau r).take k).length≤2000:=by rw [List.length_take];omega
     simp only at X3
     have HN:=HN0 k HC
     clear HN0
     obtain ⟨D,hD⟩:∃ D,D=(jau r).drop k:=⟨_,rfl⟩
     rw [← hD] at X3 HN
     generalize (jau r).take k=s at hs3 X3 HN ⊢
     clear hD
     rcases jl3 s with ⟨v,ha,hv⟩ | ⟨v,ha,hv,hn⟩ | ⟨ha,hn⟩
     ·have hnp:=HN.out.1 v hv.2
      have HP:=Lib.hid hnp
      clear HN hnp
      obtain ⟨hb0,hb1⟩:=Lib.atoiAll_bounds ha
      have hx:(bs (Lib.itoa v)).toList=(bs s).toList:=by rw [hv.1]
      have hx2:bs (Lib.itoa v)=bs s:=by rw [hv.1]
      clear hv
      go_wp2_with fail
      refine (jdw s hs3 v ha _).mono ?_
      rintro e w4 ⟨rfl,hb4⟩
      have X4:=Lib.hid (X3.out.next hb4)
      have B4:=Lib.hid (World.grownBy.trans' B3.out (jak hb4))
      clear hb4
      go_wp2_with fail
      refine (je2 v hb0 hb1 _ X4.out.2.1).mono ?_
      rintro e w5 ⟨rfl,hb5⟩
      rw [hx2]
      clear hx hx2
      have X5:=Lib.hid (X4.out.next hb5)
      have B5:=Lib.hid (World.grownBy.trans' B4.out (jak hb5))
      clear hb5
      go_wp2
      go_ret
      exact ⟨by rw [HP.out];rfl,by rw [HP.out];exact X5.out.1,B5.out⟩
     ·have hnp:=HN.out.2 hn
      have HP:=Lib.hid hnp
      clear HN hnp
      obtain ⟨hb0,hb1⟩:=Lib.atoiAll_bounds ha
      have hx:((bs (Lib.itoa v)).toList == (bs s).toList)=false:=by rw [jbm,jbm];exact beq_eq_false_iff_ne.2 hv
      have hx1:=jbm (Lib.itoa v)
      have hx2:=jbm s
      have hx3:(Lib.itoa v == s)=false:=beq_eq_false_iff_ne.2 hv
      go_wp2_with fail
      refine (jdw s hs3 v ha _).mono ?_
      rintro e w4 ⟨rfl,hb4⟩
      have X4:=Lib.hid (X3.out.next hb4)
      have B4:=Lib.hid (World.grownBy.trans' B3.out (jak hb4))
      clear hb4
      go_wp2_with fail
      refine (je2 v hb0 hb1 _ X4.out.2.1).mono ?_
      rintro e w5 ⟨rfl,hb5⟩
      have X5:=Lib.hid (X4.out.next hb5)
      have B5:=Lib.hid (World.grownBy.trans' B4.out (jak hb5))
      clear hb5
      obtain ⟨⟨q0,q1,q2,q3,q4⟩,q5,q6⟩:=X5.out
      clear q5 q6
      go_wp2
      go_ret
      exact ⟨by rw [HP.out];rfl,by rw [HP.out];exact X5.out.1.set1 true,World.grownBy.trans' B5.out (jcv ..)⟩
     ·have hnp:=HN.out.2 hn
      have HP:=Lib.hid hnp
      clear HN hnp
      go_wp2_with fail
      refine (jir s hs3 ha _ X3.out.2.1).mono ?_
      rintro e w4 ⟨n,ti,N,rfl,hb4⟩
      have X4:=Lib.hid (X3.out.next hb4)
      have B4:=Lib.hid (World.grownBy.trans' B3.out (jak hb4))
      clear hb4
      obtain ⟨⟨q0,q1,q2,q3,q4⟩,q5,q6⟩:=X4.out
      clear q5 q6
      go_wp2
      go_ret
      exact ⟨by rw [HP.out];rfl,by rw [HP.out];exact X4.out.1.set1 true,World.grownBy.trans' B4.out (jcv ..)⟩
    ·by_cases h2:57<S[k].toNat
     ·have h1':48≤(S[k].toNat:Int):=by omega
      have h2':57<(S[k].toNat:Int):=by omega
      have HL:Hid (digB S[k]=false):=by simp [digB,Hid];omega
      have HC:=hcut (.inr ⟨_,HX.out,HL.out⟩)
      clear hcut
      go_wp2_with fail
      refine (jv2 ⟨jau r,b⟩ k g _ H1.out.1 (by simp only;omega) (by simp only;omega)).mono ?_
      rintro e w3 ⟨rfl,h3,hb3⟩
      have X3:=Lib.hid (H1.out.grown h3 hb3)
      have B3:=Lib.hid (World.grownBy.trans' B1.out hb3)
      clear h3 hb3
      have hs3:((jau r).take k).length≤2000:=by rw [List.length_take];omega
      simp only at X3
      have HN:=HN0 k HC
      clear HN0
      obtain ⟨D,hD⟩:∃ D,D=(jau r).drop k:=⟨_,rfl⟩
      rw [← hD] at X3 HN
      generalize (jau r).take k=s at hs3 X3 HN ⊢
      clear hD
      rcases jl3 s with ⟨v,ha,hv⟩ | ⟨v,ha,hv,hn⟩ | ⟨ha,hn⟩
      ·have hnp:=HN.out.1 v hv.2
       have HP:=Lib.hid hnp
       clear HN hnp
       obtain ⟨hb0,hb1⟩:=Lib.atoiAll_bounds ha
       have hx:(bs (Lib.itoa v)).toList=(bs s).toList:=by rw [hv.1]
       have hx2:bs (Lib.itoa v)=bs s:=by rw [hv.1]
       clear hv
       go_wp2_with fail
       refine (jdw s hs3 v ha _).mono ?_
       rintro e w4 ⟨rfl,hb4⟩
       have X4:=Lib.hid (X3.out.next hb4)
       have B4:=Lib.hid (World.grownBy.trans' B3.out (jak hb4))
       clear hb4
       go_wp2_with fail
       refine (je2 v hb0 hb1 _ X4.out.2.1).mono ?_
       rintro e w5 ⟨rfl,hb5⟩
       rw [hx2]
       clear hx hx2
       have X5:=Lib.hid (X4.out.next hb5)
       have B5:=Lib.hid (World.grownBy.trans' B4.out (jak hb5))
       clear hb5
       go_wp2
       go_ret
       exact ⟨by rw [HP.out];rfl,by rw [HP.out];exact X5.out.1,B5.out⟩
      ·have hnp:=HN.out.2 hn
       have HP:=Lib.hid hnp
       clear HN hnp
       obtain ⟨hb0,hb1⟩:=Lib.atoiAll_bounds ha
       have hx:((bs (Lib.itoa v)).toList == (bs s).toList)=false:=by rw [jbm,jbm];exact beq_eq_false_iff_ne.2 hv
       have hx1:=jbm (Lib.itoa v)
       have hx2:=jbm s
       have hx3:(Lib.itoa v == s)=false:=beq_eq_false_iff_ne.2 hv
       go_wp2_with fail
       refine (jdw s hs3 v ha _).mono ?_
       rintro e w4 ⟨rfl,hb4⟩
       have X4:=Lib.hid (X3.out.next hb4)
       have B4:=Lib.hid (World.grownBy.trans' B3.out (jak hb4))
       clear hb4
       go_wp2_with fail
       refine (je2 v hb0 hb1 _ X4.out.2.1).mono ?_
       rintro e w5 ⟨rfl,hb5⟩
       have X5:=Lib.hid (X4.out.next hb5)
       have B5:=Lib.hid (World.grownBy.trans' B4.out (jak hb5))
       clear hb5
       obtain ⟨⟨q0,q1,q2,q3,q4⟩,q5,q6⟩:=X5.out
       clear q5 q6
       go_wp2
       go_ret
       exact ⟨by rw [HP.out];rfl,by rw [HP.out];exact X5.out.1.set1 true,World.grownBy.trans' B5.out (jcv ..)⟩
      ·have hnp:=HN.out.2 hn
       have HP:=Lib.hid hnp
       clear HN hnp
       go_wp2_with fail
       refine (jir s hs3 ha _ X3.out.2.1).mono ?_
       rintro e w4 ⟨n,ti,N,rfl,hb4⟩
       have X4:=Lib.hid (X3.out.next hb4)
       have B4:=Lib.hid (World.grownBy.trans' B3.out (jak hb4))
       clear hb4
       obtain ⟨⟨q0,q1,q2,q3,q4⟩,q5,q6⟩:=X4.out
       clear q5 q6
       go_wp2
       go_ret
       exact ⟨by rw [HP.out];rfl,by rw [HP.out];exact X4.out.1.set1 true,World.grownBy.trans' B4.out (jcv ..)⟩
     ·have h1':48≤(S[k].toNat:Int):=by omega
      have h2':(S[k].toNat:Int)≤57:=by omega
      have HL:Hid (digB S[k]=true):=by simp [digB,Hid];omega
      clear hcut
      go_wp2
      exact ⟨⟨k+1,by omega,by omega,by go_num,jp4 hk0 hf.out HX.out HL.out,by first | trivial | rfl⟩,by simp [intOf];omega⟩
   ·have hge:(S.size:Int)≤k:=by omega
    have HC:=hcut (.inl (by omega))
    clear hcut
    go_wp2_with fail
    refine (jv2 ⟨jau r,b⟩ k g _ H1.out.1 (by simp only;omega) (by simp only;omega)).mono ?_
    rintro e w3 ⟨rfl,h3,hb3⟩
    have X3:=Lib.hid (H1.out.grown h3 hb3)
    have B3:=Lib.hid (World.grownBy.trans' B1.out hb3)
    clear h3 hb3
    have hs3:((jau r).take k).length≤2000:=by rw [List.length_take];omega
    simp only at X3
    have HN:=HN0 k HC
    clear HN0
    obtain ⟨D,hD⟩:∃ D,D=(jau r).drop k:=⟨_,rfl⟩
    rw [← hD] at X3 HN
    generalize (jau r).take k=s at hs3 X3 HN ⊢
    clear hD
    rcases jl3 s with ⟨v,ha,hv⟩ | ⟨v,ha,hv,hn⟩ | ⟨ha,hn⟩
    ·have hnp:=HN.out.1 v hv.2
     have HP:=Lib.hid hnp
     clear HN hnp
     obtain ⟨hb0,hb1⟩:=Lib.atoiAll_bounds ha
     have hx:(bs (Lib.itoa v)).toList=(bs s).toList:=by rw [hv.1]
     have hx2:bs (Lib.itoa v)=bs s:=by rw [hv.1]
     clear hv
     go_wp2_with fail
     refine (jdw s hs3 v ha _).mono ?_
     rintro e w4 ⟨rfl,hb4⟩
     have X4:=Lib.hid (X3.out.next hb4)
     have B4:=Lib.hid (World.grownBy.trans' B3.out (jak hb4))
     clear hb4
     go_wp2_with fail
     refine (je2 v hb0 hb1 _ X4.out.2.1).mono ?_
     rintro e w5 ⟨rfl,hb5⟩
     rw [hx2]
     clear hx hx2
     have X5:=Lib.hid (X4.out.next hb5)
     have B5:=Lib.hid (World.grownBy.trans' B4.out (jak hb5))
     clear hb5
     go_wp2
     go_ret
     exact ⟨by rw [HP.out];rfl,by rw [HP.out];exact X5.out.1,B5.out⟩
    ·have hnp:=HN.out.2 hn
     have HP:=Lib.hid hnp
     clear HN hnp
     obtain ⟨hb0,hb1⟩:=Lib.atoiAll_bounds ha
     have hx:((bs (Lib.itoa v)).toList == (bs s).toList)=false:=by rw [jbm,jbm];exact beq_eq_false_iff_ne.2 hv
     have hx1:=jbm (Lib.itoa v)
     have hx2:=jbm s
     have hx3:(Lib.itoa v == s)=false:=beq_eq_false_iff_ne.2 hv
     go_wp2_with fail
     refine (jdw s hs3 v ha _).mono ?_
     rintro e w4 ⟨rfl,hb4⟩
     have X4:=Lib.hid (X3.out.next hb4)
     have B4:=Lib.hid (World.grownBy.trans' B3.out (jak hb4))
     clear hb4
     go_wp2_with fail
     refine (je2 v hb0 hb1 _ X4.out.2.1).mono ?_
     rintro e w5 ⟨rfl,hb5⟩
     have X5:=Lib.hid (X4.out.next hb5)
     have B5:=Lib.hid (World.grownBy.trans' B4.out (jak hb5))
     clear hb5
     obtain ⟨⟨q0,q1,q2,q3,q4⟩,q5,q6⟩:=X5.out
     clear q5 q6
     go_wp2
     go_ret
     exact ⟨by rw [HP.out];rfl,by rw [HP.out];exact X5.out.1.set1 true,World.grownBy.trans' B5.out (jcv ..)⟩
    ·have hnp:=HN.out.2 hn
     have HP:=Lib.hid hnp
     clear HN hnp
     go_wp2_with fail
     refine (jir s hs3 ha _ X3.out.2.1).mono ?_
     rintro e w4 ⟨n,ti,N,rfl,hb4⟩
     have X4:=Lib.hid (X3.out.next hb4)
     have B4:=Lib.hid (World.grownBy.trans' B3.out (jak hb4))
     clear hb4
     obtain ⟨⟨q0,q1,q2,q3,q4⟩,q5,q6⟩:=X4.out
     clear q5 q6
     go_wp2
     go_ret
     exact ⟨by rw [HP.out];rfl,by rw [HP.out];exact X4.out.1.set1 true,World.grownBy.trans' B4.out (jcv ..)⟩
open Go.RowKit Go.Shelf
section
variable {w w':World} {b g:Nat} {vs:List Value} {p:PS}
theorem PX.below {B:Nat} (h:PX w g p) (hb:Below B w w') (hg:g<B):PX w' g p :=
 ⟨h.1.keep (hb.block g hg) hb.size,h.2.1.keep h.2.2 fun k hk=>hb.block k (by omega),h.2.2⟩
theorem jbu {B:Nat} {w1:World} (h:w.grownBy w1 (some g)) (hb:Below B w1 w') (hB:w.heap.size≤B):w.grownBy w' (some g) :=
 ⟨hb.os.trans h.os,hb.tape.trans h.tape,hb.output.trans h.output,Nat.le_trans h.size hb.size,fun k hk hne=>(hb.block k (by omega)).trans (h.block k hk hne)⟩
theorem jbr {w1:World} (h:w.grownBy w1 (some g)) (h':w1.grownBy w' (some g)):w.grownBy w' (some g):=World.grownBy.trans' h h'
end
theorem jzj {fn:Func} {p:Tmp} {tmps:Array Value} {W:World} {b:Nat} {x y:Value} (h:fn.results = #[.cell p 87]) (hp:tmps.getD p undef = .pointer (some ⟨b,0,none⟩)) (ht:Cs W b [x,y]) :
  (results fn tmps).run Tryz.prog W = .ok (.agg #[x,y]) W:=by
 have q0:=ht.at 0 rfl
 have q1:=ht.at 1 rfl
 have hp':tmps[p]?.getD undef = .pointer (some ⟨b,0,none⟩):=by simpa using hp
 simp [results,h,hp',go_sem,q0,q1]
theorem ycc {fn:Func} {p:Tmp} {tmps:Array Value} {W:World} {b:Nat} {x y:Value} (h:fn.results = #[.cell p 85]) (hp:tmps.getD p undef = .pointer (some ⟨b,0,none⟩)) (ht:Cs W b [x,y]) :
  (results fn tmps).run Tryz.prog W = .ok (.agg #[x,y]) W:=by
 have q0:=ht.at 0 rfl
 have q1:=ht.at 1 rfl
 have hp':tmps[p]?.getD undef = .pointer (some ⟨b,0,none⟩):=by simpa using hp
 simp [results,h,hp',go_sem,q0,q1]
theorem ymk {fn:Func} {p:Tmp} {tmps:Array Value} {W:World} {b:Nat} {x y:Value} (h:fn.results = #[.cell p 82]) (hp:tmps.getD p undef = .pointer (some ⟨b,0,none⟩)) (ht:Cs W b [x,y]) :
  (results fn tmps).run Tryz.prog W = .ok (.agg #[x,y]) W:=by
 have q0:=ht.at 0 rfl
 have q1:=ht.at 1 rfl
 have hp':tmps[p]?.getD undef = .pointer (some ⟨b,0,none⟩):=by simpa using hp
 simp [results,h,hp',go_sem,q0,q1]
theorem ylx (p:PS) (g:Nat) (w:World) (h:PX w g p) (hs:p.rest.length≤2000) :
  Calls Tryz.prog 241 #[.pointer (some ⟨g,0,none⟩)] w fun e w'=>e = .returned (.agg #[.int .i64 (jdl p).1.1,.int .i64 (jdl p).1.2])∧PA w' g (jdl p).2∧w.grownBy w' (some g):=by
 have H:=Lib.hid h
 have hg:=h.1.1
 have L1:=jg9 p
 have L2:=jec [46,46] (jaw p).2
 have hw0:=jaa w (.cells #[.int .i64 0,.int .i64 0] 87)
 have C0:=Cs.new w [.int .i64 0,.int .i64 0] 87
 have hz0:(w.alloc (.cells #[.int .i64 0,.int .i64 0] 87)).heap.size=w.heap.size+1:=by simp
 generalize hwe:w.alloc (.cells #[.int .i64 0,.int .i64 0] 87)=w0 at *
 have X0:=Lib.hid (H.out.next hw0)
 have B0:Hid (w.grownBy w0 (some g)):=jak hw0
 have C0':=Lib.hid C0
 clear hw0 C0
 have HE:Hid (jdl p=if (jat [46,46] (jaw p).2).1 then (((jaw p).1,(jaw (jat [46,46] (jaw p).2).2).1),⟨(jaw (jat [46,46] (jaw p).2).2).2.rest,(jaw (jat [46,46] (jaw p).2).2).2.bad || decide ((jaw (jat [46,46] (jaw p).2).2).1≤(jaw p).1)⟩) else (((jaw p).1,(jaw p).1),(jat [46,46] (jaw p).2).2)):=rfl
 generalize hR:jdl p=R at *
 clear hR
 go_enter Tryz.func241,Tryz.ntmps241
 go_wp2_with fail
 clear hwe
 refine (jqi p g _ X0.out hs).mono ?_
 rintro e w1 ⟨rfl,h1,hb1⟩
 have X1:=Lib.hid (X0.out.grown h1 hb1)
 have B1:=Lib.hid (jbr B0.out hb1)
 have C1:=Lib.hid (C0'.out.grown hb1 (by omega))
 clear h1 hb1
 generalize hP:jaw p=P1 at *
 obtain ⟨n1,p1⟩:=P1
 simp only at L1 L2 X1 HE
 go_wp2_with fail
 refine (jpq [46,46] p1 g _ X1.out.1 (by omega)).mono ?_
 rintro e w2 ⟨rfl,h2,hb2⟩
 have X2:=Lib.hid (X1.out.grown h2 hb2)
 have B2:=Lib.hid (jbr B1.out hb2)
 have C2:=Lib.hid (C1.out.grown hb2 (by omega))
 clear h2 hb2
 generalize hP2:jat [46,46] p1=P2 at *
 obtain ⟨t2,p2⟩:=P2
 simp only at L2 X2 HE
 cases t2
 ·have HE':Hid (R=((n1,n1),p2)):=by show R=_;have:=HE.out;simpa using this
  obtain ⟨q0,q1,q2⟩:=C2.out
  have r0:=q1 0 _ rfl
  have r1:=q1 1 _ rfl
  have f0:=q2 0 (by simp)
  have f1:=q2 1 (by simp)
  clear q1 q2 HE
  go_wp2
  refine bodyPost_ret (jzj (b:=w.heap.size) rfl rfl (((C2.out.set 0 (by simp) (.int .i64 n1)).set 1 (by simp) (.int .i64 n1)))) rfl ?_
  rw [HE'.out]
  refine ⟨rfl,?_,?_⟩
  ·exact ((X2.out.below (jal ..) hg).below (jal ..) hg).1
  ·exact jbu (jbu B2.out (jal ..) (Nat.le_refl _)) (jal ..) (Nat.le_refl _)
 ·have L3:=jg9 p2
  go_wp2_with fail
  refine (jqi p2 g _ X2.out (by simp at L2;omega)).mono ?_
  rintro e w3 ⟨rfl,h3,hb3⟩
  have X3:=Lib.hid (X2.out.grown h3 hb3)
  have B3:=Lib.hid (jbr B2.out hb3)
  have C3:=Lib.hid (C2.out.grown hb3 (by omega))
  clear h3 hb3
  generalize hP3:jaw p2=P3 at *
  obtain ⟨n3,p3⟩:=P3
  simp only at X3 HE
  by_cases hle:n3≤n1
  ·have HE':Hid (R=((n1,n3),⟨p3.rest,true⟩)):=by show R=_;have:=HE.out;simp only [if_true] at this;rw [this];simp [hle]
   obtain ⟨⟨u0,u1,u2,u3,u4⟩,u5,u6⟩:=X3.out
   obtain ⟨q0,q1,q2⟩:=C3.out
   have r0:=q1 0 _ rfl
   have r1:=q1 1 _ rfl
   have f0:=q2 0 (by simp)
   have f1:=q2 1 (by simp)
   clear q1 q2 HE u5 u6
   have X4:=Lib.hid (X3.out.1.set1 true)
   have B4:=Lib.hid (jbr B3.out (jcv w3 g 1 (.bool true)))
   have C4:=Lib.hid (C3.out.grown (jcv w3 g 1 (.bool true)) (by omega))
   have V4:=Lib.hid (X3.out.grown X4.out (jcv w3 g 1 (.bool true)))
   go_wp2
   refine bodyPost_ret (jzj (b:=w.heap.size) rfl rfl (((C4.out.set 0 (by simp) (.int .i64 n1)).set 1 (by simp) (.int .i64 n3)))) rfl ?_
   rw [HE'.out]
   refine ⟨rfl,?_,?_⟩
   ·exact ((V4.out.below (jal ..) hg).below (jal ..) hg).1
   ·exact jbu (jbu B4.out (jal ..) (Nat.le_refl _)) (jal ..) (Nat.le_refl _)
  ·have HE':Hid (R=((n1,n3),p3)):=by show R=_;have:=HE.out;simp only [if_true] at this;rw [this];simp [hle]
   obtain ⟨q0,q1,q2⟩:=C3.out
   have r0:=q1 0 _ rfl
   have r1:=q1 1 _ rfl
   have f0:=q2 0 (by simp)
   have f1:=q2 1 (by simp)
   clear q1 q2 HE
   have hle':n1<n3:=by omega
   go_wp2
   refine bodyPost_ret (jzj (b:=w.heap.size) rfl rfl (((C3.out.set 0 (by simp) (.int .i64 n1)).set 1 (by simp) (.int .i64 n3)))) rfl ?_
   rw [HE'.out]
   refine ⟨rfl,?_,?_⟩
   ·exact ((X3.out.below (jal ..) hg).below (jal ..) hg).1
   ·exact jbu (jbu B3.out (jal ..) (Nat.le_refl _)) (jal ..) (Nat.le_refl _)
def ju9 (w:World) (g:Nat):Nat:=match w.cell? ⟨g,0,none⟩ with
 | some (.string s)=>s.size
 | _=>0
theorem jj3 {w:World} {g:Nat} {p:PS} (h:PA w g p):ju9 w g=p.rest.length:=by
 unfold ju9
 rw [h.2.1]
 exact jeq _
theorem yi0:Tryz.prog.underlying 83=some (.slice 87):=by kernel_rfl
theorem yqa:(Tryz.prog.info? 87).map (fun i=>(i.zero,i.size,i.bytes))=some (some (.agg #[.int .i64 0,.int .i64 0]),2,16):=by kernel_rfl
theorem yix:Tryz.prog.underlying 80=some (.slice 85):=by kernel_rfl
theorem yp9:(Tryz.prog.info? 85).map (fun i=>(i.zero,i.size,i.bytes))=some (some (.agg #[.bool false,.slice none 0 0]),2,32):=by kernel_rfl
theorem jhu:Tryz.prog.underlying 39=some (.slice 9):=by kernel_rfl
theorem jlh:(Tryz.prog.info? 9).map (fun i=>(i.zero,i.size,i.bytes))=some (some (.string ⟨#[]⟩),1,16):=by kernel_rfl
theorem jhz (w:World) (vs:List Value) (e:Nat):∀ j u,vs[j]? = some u→(w.alloc (.cells vs.toArray e)).cell? ((⟨w.heap.size,0,none⟩:Addr).add j)=some u:=by
 intro j u hu
 have ea:(⟨w.heap.size,0,none⟩:Addr).add j = ⟨w.heap.size,j,none⟩:=by unfold Addr.add;split <;> simp_all
 rw [ea]
 exact (World.cell?_alloc_new ..).trans (by simpa using hu)
theorem ypb (p:PS) (g:Nat) (w:World) (h:PX w g p) (hs:p.rest.length≤2000) :
  Calls Tryz.prog 228 #[.pointer (some ⟨g,0,none⟩)] w fun e w'=>∃ v,e = .returned v∧OwnG Enc.rng w' w.heap.size w.heap.size 87 v (jh8 p).1∧PA w' g (jh8 p).2∧w.grownBy w' (some g):=by
 have H:=Lib.hid h
 have hg:=h.1.1
 have L1:=jrz p
 have HE:Hid (jh8 p=((jdl p).1 :: (sepP jdl [124] ((jdl p).2.rest.length+1) (jdl p).2).1,(sepP jdl [124] ((jdl p).2.rest.length+1) (jdl p).2).2)):=rfl
 generalize hR:jh8 p=R at *
 clear hR
 go_enter Tryz.func228,Tryz.ntmps228
 go_wp2_with fail
 refine (ylx p g _ H.out hs).mono ?_
 rintro e w1 ⟨rfl,h1,hb1⟩
 have X1:=Lib.hid (H.out.grown h1 hb1)
 have B1:=Lib.hid hb1
 have hz1:=hb1.size
 generalize hP:jdl p=P1 at *
 obtain ⟨⟨lo1,hi1⟩,p1⟩:=P1
 simp only at L1 X1 HE
 have O1:Hid (OwnG Enc.rng (w1.alloc (.cells #[.int .i64 lo1,.int .i64 hi1] 87)) w.heap.size w.heap.size 87 (.slice (some ⟨w1.heap.size,0,none⟩) [(lo1,hi1)].length [(lo1,hi1)].length) [(lo1,hi1)]):=by
  refine OwnG.lit w1 [(lo1,hi1)] #[.int .i64 lo1,.int .i64 hi1] hz1 (by unfold maxLen;simp) rfl (jb9.one ?_)
  exact rfl
 have hw2:=jaa w1 (.cells #[.int .i64 lo1,.int .i64 hi1] 87)
 have X2:=Lib.hid (X1.out.next hw2)
 have B2:=Lib.hid (jbr B1.out (jak hw2))
 clear h1 hb1
 go_wp2
 clear hw2
 generalize w1.alloc (.cells #[.int .i64 lo1,.int .i64 hi1] 87)=w2 at *
 go_loopw [3] (fun v wr=>∃ (acc:List (Int × Int)) (q:PS) (n:Nat),q.rest.length<n∧(q.rest.length+acc.length≤2001∧q.rest.length≤2000)∧Hid (R=(acc ++ (sepP jdl [124] n q).1,(sepP jdl [124] n q).2))∧Hid (OwnG Enc.rng wr w.heap.size w.heap.size 87 v acc)∧Hid (PX wr g q)∧Hid (w.grownBy wr (some g))) (fun _ wr=>ju9 wr g)
 case atStart=>exact ⟨[(lo1,hi1)],p1,p1.rest.length+1,by omega,⟨by simp only [List.length_cons,List.length_nil];omega,by omega⟩,HE,O1,X2,B2⟩
 case round =>
  obtain ⟨acc,q,n,hn,⟨hb,hb2⟩,HR,HO,HX,HB⟩:=hrel
  obtain ⟨m,rfl⟩:∃ m,n=m+1:=⟨n-1,by omega⟩
  have hq:=HX.out.1
  have T1:=jec [124] q
  have ML:=Lib.hid (jj3 hq)
  clear hq
  have HS:Hid (sepP jdl [124] (m+1) q=if (jat [124] q).1 then ((jdl (jat [124] q).2).1 :: (sepP jdl [124] m (jdl (jat [124] q).2).2).1,(sepP jdl [124] m (jdl (jat [124] q).2).2).2) else ([],(jat [124] q).2)):=rfl
  go_wp2_with fail
  refine (jpq [124] q g _ HX.out.1 (by omega)).mono ?_
  rintro e w3 ⟨rfl,h3,hb3⟩
  have X3:=Lib.hid (HX.out.grown h3 hb3)
  have B3:=Lib.hid (jbr HB.out hb3)
  have O3:=Lib.hid (HO.out.grownP hb3 hg hg)
  clear h3 hb3
  generalize hT:jat [124] q=T at *
  obtain ⟨t3,q3⟩:=T
  simp only at T1 X3 HS
  cases t3
  ·have HS':Hid (sepP jdl [124] (m+1) q=([],q3)):=by show _=_;rw [HS.out];rfl
   clear HS
   go_wp2
   go_ret
   have hr:=HR.out
   rw [HS'.out,List.append_nil] at hr
   exact ⟨_,rfl,by rw [hr];exact O3.out,by rw [hr];exact X3.out.1,B3.out⟩
  ·have I1:=jrz q3
   have T1':q3.rest.length+1≤q.rest.length:=by simpa using T1
   have hz3:=B3.out.size
   go_wp2_with fail
   refine (ylx q3 g _ X3.out (by omega)).mono ?_
   rintro e w4 ⟨rfl,h4,hb4⟩
   have X4:=Lib.hid (X3.out.grown h4 hb4)
   have B4:=Lib.hid (jbr B3.out hb4)
   have O4:=Lib.hid (O3.out.grownP hb4 hg hg)
   have hz4:=B4.out.size
   generalize hP4:jdl q3=P4 at *
   obtain ⟨⟨lo4,hi4⟩,q4⟩:=P4
   simp only at I1 X4 HS
   have HS':Hid (sepP jdl [124] (m+1) q=((lo4,hi4) :: (sepP jdl [124] m q4).1,(sepP jdl [124] m q4).2)):=by show _=_;rw [HS.out];rfl
   have hw5:=jaa w4 (.cells #[.int .i64 lo4,.int .i64 hi4] 87)
   have O5:=Lib.hid (O4.out.alloc (.cells #[.int .i64 lo4,.int .i64 hi4] 87))
   have X5:=Lib.hid (X4.out.next hw5)
   have B5:=Lib.hid (jbr B4.out (jak hw5))
   have hz5:w.heap.size≤(w4.alloc (.cells #[.int .i64 lo4,.int .i64 hi4] 87)).heap.size:=Nat.le_trans hz4 hw5.size
   have HY:Hid (Enc.rng.rd (w4.alloc (.cells #[.int .i64 lo4,.int .i64 hi4] 87)) (Off w.heap.size (w4.alloc (.cells #[.int .i64 lo4,.int .i64 hi4] 87)) u3) (lo4,hi4) [.int .i64 lo4,.int .i64 hi4]):=rfl
   clear h4 hb4 HS hw5
   go_wp2_with (at_builtin;refine jaf (E:=Enc.rng) _ rfl _ _ 83 rfl w.heap.size w.heap.size 87 16 (.agg #[.int .i64 0,.int .i64 0]) yi0 yqa rfl (by decide) _ _ rfl O5.out ⟨w4.heap.size,0,none⟩ (lo4,hi4) [.int .i64 lo4,.int .i64 hi4] rfl HY.out (jhz w4 _ _) (by omega) (by unfold maxLen;omega) hz5 ?_;intro v' w6 hown' hgrow6 _)
   have hbel:Below w.heap.size _ w6:=jag hgrow6 hz5 (fun k hk=>(O5.out.lt k hk).1)
   have X6:=X5.out.below hbel hg
   refine ⟨⟨acc ++ [(lo4,hi4)],q4,m,by omega,⟨by rw [List.length_append];simp only [List.length_cons,List.length_nil];omega,by omega⟩,?_,hown',X6,jbu B5.out hbel (Nat.le_refl _)⟩,?_⟩
   ·show R=_
    rw [HR.out,HS'.out];simp
   ·rw [jj3 X6.1,ML.out];omega
theorem yqp (p:PS) (g:Nat) (w:World) (h:PX w g p) (hs:p.rest.length≤2000) :
  Calls Tryz.prog 204 #[.pointer (some ⟨g,0,none⟩)] w fun e w'=>∃ v,e = .returned (.agg #[.bool (jfr p).1.1,v])∧Sl Enc.rng w' (From w.heap.size w') (jfr p).1.2 v∧PA w' g (jfr p).2∧w.grownBy w' (some g):=by
 have H:=Lib.hid h
 have hg:=h.1.1
 have L1:=jec [42] p
 have hw0:=jaa w (.cells #[.bool false,.slice none 0 0] 85)
 have C0:=Lib.hid (Cs.new w [.bool false,.slice none 0 0] 85)
 have hz0:(w.alloc (.cells #[.bool false,.slice none 0 0] 85)).heap.size=w.heap.size+1:=by simp
 generalize hwe:w.alloc (.cells #[.bool false,.slice none 0 0] 85)=w0 at *
 have X0:=Lib.hid (H.out.next hw0)
 have B0:Hid (w.grownBy w0 (some g)):=jak hw0
 clear hw0
 have HE:Hid (jfr p=if (jat [42] p).1 then ((false,[]),(jat [42] p).2) else (((jcx [110,111,116] (jat [42] p).2).1,(jh8 (jcx [110,111,116] (jat [42] p).2).2).1),(jh8 (jcx [110,111,116] (jat [42] p).2).2).2)):=rfl
 generalize hR:jfr p=R at *
 clear hR
 go_enter Tryz.func204,Tryz.ntmps204
 go_wp2_with fail
 clear hwe
 refine (jpq [42] p g _ X0.out.1 hs).mono ?_
 rintro e w1 ⟨rfl,h1,hb1⟩
 have X1:=Lib.hid (X0.out.grown h1 hb1)
 have B1:=Lib.hid (jbr B0.out hb1)
 have C1:=Lib.hid (C0.out.grown hb1 (by omega))
 have hz1:=hb1.size
 clear h1 hb1
 generalize hP:jat [42] p=P1 at *
 obtain ⟨t1,p1⟩:=P1
 simp only at L1 X1 HE
 cases t1
 ·have L2:=jmu [110,111,116] p1
  have hw2:=jaa w1 (.cells #[.bool false,.slice none 0 0] 85)
  have D2:=Lib.hid (Cs.new w1 [.bool false,.slice none 0 0] 85)
  have hz2:(w1.alloc (.cells #[.bool false,.slice none 0 0] 85)).heap.size=w1.heap.size+1:=by simp
  generalize hwe2:w1.alloc (.cells #[.bool false,.slice none 0 0] 85)=w2 at *
  have X2:=Lib.hid (X1.out.next hw2)
  have C2:=Lib.hid (C1.out.next hw2)
  have B2:=Lib.hid (jbr B1.out (jak hw2))
  clear hw2
  go_wp2_with fail
  clear hwe2
  refine (yft [110,111,116] p1 g _ X2.out.1 (by simp at L1;omega)).mono ?_
  rintro e w3 ⟨rfl,h3,hb3⟩
  have X3:=Lib.hid (X2.out.grown h3 hb3)
  have B3:=Lib.hid (jbr B2.out hb3)
  have C3:=Lib.hid (C2.out.grown hb3 (by omega))
  have D3:=Lib.hid (D2.out.grown hb3 (by omega))
  have hz3:=hb3.size
  clear h3 hb3
  generalize hP3:jcx [110,111,116] p1=P3 at *
  obtain ⟨t3,p3⟩:=P3
  simp only at L2 X3 HE
  obtain ⟨d0,d1,d2⟩:=D3.out
  have r0:=d1 0 _ rfl
  have f0:=d2 0 (by simp)
  clear d1 d2
  have X4:=Lib.hid (X3.out.below (jal w3 w1.heap.size 0 (.bool t3)) (by omega))
  have B4:=Lib.hid (jbu B3.out (jal w3 w1.heap.size 0 (.bool t3)) (by omega))
  have C4:=Lib.hid (C3.out.below (jal w3 w1.heap.size 0 (.bool t3)) (by omega))
  have D4:=Lib.hid (D3.out.set 0 (by simp) (.bool t3))
  have hz4:(w3.setCell ⟨w1.heap.size,0,none⟩ (.bool t3)).heap.size=w3.heap.size:=by simp [World.setCell]
  generalize hwe4:w3.setCell ⟨w1.heap.size,0,none⟩ (.bool t3)=w4 at *
  go_wp2_with fail
  clear hwe4 r0 f0
  refine (ypb p3 g _ X4.out (by simp at L1;omega)).mono ?_
  rintro e w5 ⟨v5,rfl,hn5,h5,hb5⟩
  have S5:=Lib.hid (hn5.sl (Nat.le_refl _))
  obtain ⟨A5,c5,rfl,-,-,-⟩:=hn5.form
  have X5:=Lib.hid (X4.out.grown h5 hb5)
  have B5:=Lib.hid (jbr B4.out hb5)
  have C5:=Lib.hid (C4.out.grown hb5 (by omega))
  have D5:=Lib.hid (D4.out.grown hb5 (by omega))
  have hz5:=hb5.size
  clear h5 hb5 hn5
  generalize hP5:jh8 p3=P5 at *
  obtain ⟨rs5,p5⟩:=P5
  simp only at X5 HE S5
  have HE':Hid (R=((t3,rs5),p5)):=by show R=_;have:=HE.out;simpa using this
  clear HE
  obtain ⟨d0,d1,d2⟩:=D5.out
  have r0:=d1 0 _ rfl
  have r1:=d1 1 _ rfl
  have f0:=d2 0 (by simp)
  have f1:=d2 1 (by simp)
  obtain ⟨u0,u1,u2⟩:=C5.out
  have k0:=u1 0 _ rfl
  have k1:=u1 1 _ rfl
  have l0:=u2 0 (by simp)
  have l1:=u2 1 (by simp)
  clear d1 d2 u1 u2
  have b6:=jal w5 w1.heap.size 1 (.slice A5 rs5.length c5)
  have X6:=Lib.hid (X5.out.below b6 (by omega))
  have B6:=Lib.hid (jbu B5.out b6 (by omega))
  have C6:=Lib.hid (C5.out.below b6 (by omega))
  have S6:Hid (Sl Enc.rng (w5.setCell ⟨w1.heap.size,1,none⟩ (.slice A5 rs5.length c5)) (From w4.heap.size w5) rs5 (.slice A5 rs5.length c5)) :=
   S5.out.keep fun q hq=>World.cell?_of_block (RowKit.Below.heap_setCell _ _ _ _ (by have:=hq.1;show q.block≠w1.heap.size;omega))
  have C7:=Lib.hid ((C6.out.set 0 (by simp) (.bool t3)).set 1 (by simp) (.slice A5 rs5.length c5))
  have b7:=jal (w5.setCell ⟨w1.heap.size,1,none⟩ (.slice A5 rs5.length c5)) w.heap.size 0 (.bool t3)
  have b8:=jal ((w5.setCell ⟨w1.heap.size,1,none⟩ (.slice A5 rs5.length c5)).setCell ⟨w.heap.size,0,none⟩ (.bool t3)) w.heap.size 1 (.slice A5 rs5.length c5)
  have X8:=Lib.hid ((X6.out.below b7 hg).below b8 hg)
  have B8:=Lib.hid (jbu (jbu B6.out b7 (Nat.le_refl _)) b8 (Nat.le_refl _))
  have S8:Hid (Sl Enc.rng (((w5.setCell ⟨w1.heap.size,1,none⟩ (.slice A5 rs5.length c5)).setCell ⟨w.heap.size,0,none⟩ (.bool t3)).setCell ⟨w.heap.size,1,none⟩ (.slice A5 rs5.length c5)) (From w4.heap.size w5) rs5 (.slice A5 rs5.length c5)) :=
   (S6.out.keep fun q hq=>World.cell?_of_block (RowKit.Below.heap_setCell _ _ _ _ (by have:=hq.1;show q.block≠w.heap.size;omega))).keep fun q hq=>World.cell?_of_block (RowKit.Below.heap_setCell _ _ _ _ (by have:=hq.1;show q.block≠w.heap.size;omega))
  clear b6 b7 b8
  go_wp2
  refine bodyPost_ret (ycc (b:=w.heap.size) rfl rfl C7.out) rfl ?_
  rw [HE'.out]
  refine ⟨_,rfl,S8.out.more (fun k hk=>⟨by have:=hk.1;omega,?_⟩),X8.out.1,B8.out⟩
  simp [World.setCell];exact hk.2
 ·have HE':Hid (R=((false,[]),p1)):=by show R=_;have:=HE.out;simpa using this
  clear HE
  obtain ⟨u0,u1,u2⟩:=C1.out
  have k0:=u1 0 _ rfl
  have k1:=u1 1 _ rfl
  have l0:=u2 0 (by simp)
  have l1:=u2 1 (by simp)
  clear u1 u2
  go_wp2
  refine bodyPost_ret (ycc (b:=w.heap.size) rfl rfl ((C1.out.set 0 (by simp) (.bool false)).set 1 (by simp) (.slice none 0 0))) rfl ?_
  rw [HE'.out]
  refine ⟨_,rfl,Sl.nil,?_,?_⟩
  ·exact ((X1.out.below (jal ..) hg).below (jal ..) hg).1
  ·exact jbu (jbu B1.out (jal ..) (Nat.le_refl _)) (jal ..) (Nat.le_refl _)
end Go.Proofs.YthmlndmlnlfhnaaGreatDoor
