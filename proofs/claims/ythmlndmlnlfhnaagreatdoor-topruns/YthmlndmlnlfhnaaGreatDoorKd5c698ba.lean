import Derived.Test.YthmlndmlnlfhnaaGreatDoorKe36991b8
import Derived.Test.YthmlndmlnlfhnaaGreatDoorK8b1d0b35
set_option maxRecDepth 100000
set_option maxHeartbeats 16000000
namespace Go.Proofs.YthmlndmlnlfhnaaGreatDoor
open Go.RowKit Go.Shelf
theorem jz3:Tryz.prog.underlying 44=some (.slice 24):=by kernel_rfl
theorem yez:(Tryz.prog.info? 24).map (fun i=>(i.zero,i.size,i.bytes))=some (some (.agg #[.int .i64 0,.int .i64 0,.string ⟨#[]⟩,.string ⟨#[]⟩,.slice none 0 0]),5,72):=by kernel_rfl
theorem yme (n:Int) (N:Nat) (hN:N≤50):∃ K:Nat,K≤N∧wrap64 (n.tmod ((N:Int)+1)+(N:Int))=n.tmod ((N:Int)+1)+(N:Int)∧wrap64 (n.tmod ((N:Int)+1)+(N:Int)+1)=n.tmod ((N:Int)+1)+(N:Int)+1∧(n.tmod ((N:Int)+1)+(N:Int)+1).tmod ((N:Int)+1)=(K:Int):=by
 have h1:n.tmod ((N:Int)+1)<(N:Int)+1:=Int.tmod_lt_of_pos n (by omega)
 have h2:-((N:Int)+1)<n.tmod ((N:Int)+1):=Int.lt_tmod_of_pos n (by omega)
 generalize n.tmod ((N:Int)+1)=T at *
 have h3:0≤(T+(N:Int)+1).tmod ((N:Int)+1):=Int.tmod_nonneg _ (by omega)
 have h4:(T+(N:Int)+1).tmod ((N:Int)+1)<(N:Int)+1:=Int.tmod_lt_of_pos _ (by omega)
 refine ⟨((T+(N:Int)+1).tmod ((N:Int)+1)).toNat,by omega,?_,?_,by omega⟩
 ·unfold wrap64;omega
 ·unfold wrap64;omega
theorem law_TopRuns (l:List ActD) (v:Value) (n:Int) (w:World) (hl:Sl Enc.act w (Old w) l v) (hsz:∀ a∈l,a.name.size≤140737488355328∧a.text.size≤140737488355328) (hv:VarsOk w) :
  Calls Tryz.prog 11 #[v,.int .i64 n] w fun e w'=>e = .returned (.bool true)∧Below w.heap.size w w':=by
 have HL:=Lib.hid hl
 have HSZ:=Lib.hid hsz
 have HV:=Lib.hid hv
 obtain ⟨A,cp,rfl,hc1,hc2,-⟩:=hl
 unfold maxLen at hc2
 clear hv hsz
 go_enter Tryz.func11,Tryz.ntmps11
 go_wp2_with fail
 refine (jn6 _ HV.out).mono ?_
 rintro e w1 ⟨rfl,hb1⟩
 have HV1:=Lib.hid (HV.out.next hb1)
 by_cases h50:50<l.length
 ·have h50':(50:Int)<l.length:=by omega
  go_wp2_with fail
  refine (jn6 _ HV1.out).mono ?_
  rintro e w2 ⟨rfl,hb2⟩
  go_wp2
  go_ret
  exact ⟨rfl,bx hb1 hb2⟩
 ·have h50':¬ (50:Int)<l.length:=by omega
  have HL1:=Lib.hid (HL.out.onOld hb1)
  obtain ⟨K,hKN,hk1,hk2,hk3⟩:=yme n l.length (by omega)
  generalize hN:l.length=N at *
  have hne:((N:Int)+1 == 0)=false:=by rw [beq_eq_false_iff_ne];omega
  have hwN:wrap64 ((N:Int)+1)=(N:Int)+1:=by unfold wrap64;omega
  have h72:N*72≤140737488355328:=by omega
  go_wp2_with (at_builtin;refine jb6 (E:=Enc.act) _ rfl _ _ 44 rfl w1.heap.size 0 24 72 (.agg #[.int .i64 0,.int .i64 0,.string ⟨#[]⟩,.string ⟨#[]⟩,.slice none 0 0]) jz3 yez rfl (by decide) _ [] rfl OwnG.nil _ l rfl (Old w1) HL1.out (fun y cs hy=>Enc.act.more hy (fun q hq=>⟨Nat.zero_le _,hq,fun e=>by cases e⟩)) (by rw [hN];simp;omega) (by rw [hN];unfold maxLen;simp;omega) (Nat.le_refl _) ?_;intro v2 w2 ho2 hg2 hm2)
  rw [List.nil_append] at ho2
  have hb2:Below w1.heap.size w1 w2:=(Below.refl _ _).grown hg2 (Nat.le_refl _) (fun _ h=>by cases h)
  have HL2:Hid (Sl Enc.act w2 (Old w2) l v2):=(ho2.sl (Nat.zero_le _)).more fun _ h=>h.2
  have hb12:=bx hb1 hb2
  clear ho2 hg2 hm2
  refine (ycj l _ _ HL2.out HSZ.out (HV1.out.next hb2) (by rw [hN];omega)).mono ?_
  rintro e w3 ⟨v3,rfl,hs3,hb3⟩
  have HS3:=Lib.hid hs3
  have HRL:Hid ((repV newV l).length=N):=by show _=_;rw [jpt];exact hN
  obtain ⟨A3,k3,e3,-,-⟩:=hs3.form
  rw [HRL.out] at e3
  subst e3
  have hb13:=bx hb12 hb3
  have HLK:Hid (Sl Enc.act w3 (Old w3) (l.take K) (.slice A K cp)):=((HL.out.onOld hb13)).front (by rw [hN];exact hKN)
  have HKL:Hid ((l.take K).length=K):=by show _=_;rw [List.length_take,hN];omega
  have HSK:Hid (∀ a∈l.take K,a.name.size≤140737488355328∧a.text.size≤140737488355328):=fun a ha=>HSZ.out a (List.mem_of_mem_take ha)
  have hkc:(K:Int)≤(cp:Int):=by omega
  have hkc':K≤cp:=by omega
  have hk0:(0:Int)≤(K:Int):=by omega
  clear hs3
  go_wp2_with (at_builtin;refine jb6 (E:=Enc.act) _ rfl _ _ 44 rfl w3.heap.size 0 24 72 (.agg #[.int .i64 0,.int .i64 0,.string ⟨#[]⟩,.string ⟨#[]⟩,.slice none 0 0]) jz3 yez rfl (by decide) _ [] rfl OwnG.nil _ (l.take K) rfl (Old w3) HLK.out (fun y cs hy=>Enc.act.more hy (fun q hq=>⟨Nat.zero_le _,hq,fun e=>by cases e⟩)) (by rw [HKL.out];simp;omega) (by rw [HKL.out];unfold maxLen;simp;omega) (Nat.le_refl _) ?_;intro v4 w4 ho4 hg4 hm4)
  rw [List.nil_append] at ho4
  have hb4:Below w3.heap.size w3 w4:=(Below.refl _ _).grown hg4 (Nat.le_refl _) (fun _ h=>by cases h)
  have HL4:Hid (Sl Enc.act w4 (Old w4) (l.take K) v4):=(ho4.sl (Nat.zero_le _)).more fun _ h=>h.2
  have hb14:=bx hb13 hb4
  clear ho4 hg4 hm4
  refine (ycj (l.take K) _ _ HL4.out HSK.out (HV.out.next hb14) (by rw [HKL.out];omega)).mono ?_
  rintro e w5 ⟨v5,rfl,hs5,hb5⟩
  have HS5:=Lib.hid hs5
  have HRK:Hid ((repV newV (l.take K)).length=K):=by show _=_;rw [jpt];exact HKL.out
  obtain ⟨A5,k5,e5,-,-⟩:=hs5.form
  rw [HRK.out] at e5
  subst e5
  have hb15:=bx hb14 hb5
  have HTK:Hid (repV newV (l.take K)=(repV newV l).take K):=ymg
  have m1:((N:Int) != (N:Int))=false:=by simp
  have m2:((K:Int) != (K:Int))=false:=by simp
  clear hs5
  go_wp2
  go_loopw [9] (fun i wr=>∃ k:Nat,k≤K∧i = .int .i64 k∧Below w5.heap.size w5 wr) (fun i _=>K-(intOf i).toNat)
  case atStart=>exact ⟨0,Nat.zero_le _,rfl,Below.refl _ _⟩
  case round =>
   obtain ⟨k,hk,rfl,hbl⟩:=hrel
   have hsl:=hbl.size
   have hs45:=hb5.size
   have hs34:=hb4.size
   by_cases hlt:k<K
   ·have hi1:(k:Int)<K:=by omega
    have hi2:(k:Int)<N:=by omega
    have hi0:(0:Int)≤k:=by omega
    have hb35:=bx hb4 (bx hb5 hbl)
    obtain ⟨b,o,x,va,vt,rfl,-,hx,a0,a1,a2,a3,a4,s1,s2⟩:=(HS3.out.keep (w':=wr) (fun p hp=>hb35.cell hp.2)).rep_at (k:=k) (by rw [HRL.out];omega)
    obtain ⟨b',o',x',va',vt',rfl,-,hx',c0,c1,c2,c3,c4,z1,z2⟩:=(HS5.out.keep (w':=wr) (fun p hp=>hbl.cell hp.2)).rep_at (k:=k) (by rw [HRK.out];exact hlt)
    obtain rfl:x'=x:=by
     have e:=hx'.out
     rw [HTK.out,List.getElem?_take_of_lt hlt] at e
     exact Option.some.inj (e.symm.trans hx.out)
    have HR1:Hid (jb0 wr (Old wr) x' (.agg #[.int .i64 x'.code,.int .i64 x'.n,.string x'.text,va,vt])):=⟨_,_,rfl,s1.more fun q hq=>by have:=hq.2;show q<_;omega,s2.more fun q hq=>by have:=hq.2;show q<_;omega⟩
    have HR2:Hid (jb0 wr (Old wr) x' (.agg #[.int .i64 x'.code,.int .i64 x'.n,.string x'.text,va',vt'])):=⟨_,_,rfl,z1.more fun q hq=>by have:=hq.2;show q<_;omega,z2.more fun q hq=>by have:=hq.2;show q<_;omega⟩
    obtain ⟨Aa,ca,rfl,-,-⟩:=s1.form
    obtain ⟨At,ct,rfl,-,-⟩:=s2.form
    obtain ⟨Ba,da,rfl,-,-⟩:=z1.form
    obtain ⟨Bt,dt,rfl,-,-⟩:=z2.form
    clear s1 s2 z1 z2
    have HR1d:Hid (jb0 wr.drew (Old wr.drew) x' (.agg #[.int .i64 x'.code,.int .i64 x'.n,.string x'.text,.slice Aa x'.answers.length ca,.slice At x'.at_.length ct])):=by
     obtain ⟨p1,p2,e,r1,r2⟩:=HR1.out
     exact ⟨p1,p2,e,r1.keep fun _ _=>rfl,r2.keep fun _ _=>rfl⟩
    have HR2d:Hid (jb0 wr.drew (Old wr.drew) x' (.agg #[.int .i64 x'.code,.int .i64 x'.n,.string x'.text,.slice Ba x'.answers.length da,.slice Bt x'.at_.length dt])):=by
     obtain ⟨p1,p2,e,r1,r2⟩:=HR2.out
     exact ⟨p1,p2,e,r1.keep fun _ _=>rfl,r2.keep fun _ _=>rfl⟩
    have d0:wr.drew.cell? ⟨b,o+k*5,none⟩=_:=a0
    have d1:wr.drew.cell? ⟨b,o+k*5+1,none⟩=_:=a1
    have d2:wr.drew.cell? ⟨b,o+k*5+2,none⟩=_:=a2
    have d3:wr.drew.cell? ⟨b,o+k*5+3,none⟩=_:=a3
    have d4:wr.drew.cell? ⟨b,o+k*5+4,none⟩=_:=a4
    have f0:wr.drew.cell? ⟨b',o'+k*5,none⟩=_:=c0
    have f1:wr.drew.cell? ⟨b',o'+k*5+1,none⟩=_:=c1
    have f2:wr.drew.cell? ⟨b',o'+k*5+2,none⟩=_:=c2
    have f3:wr.drew.cell? ⟨b',o'+k*5+3,none⟩=_:=c3
    have f4:wr.drew.cell? ⟨b',o'+k*5+4,none⟩=_:=c4
    go_wp2_with fail
    go_region_law (first
     | (go_simp;go_at_call 37;refine (jq2 x' _ _ _ HR1d.out HR2d.out).mono ?_;rintro e w6 ⟨rfl,hb6'⟩;have hb6:Below wr.heap.size wr w6:=jcw hb6';clear hb6'))
    all_goals
     go_wp2
     exact ⟨⟨k+1,by omega,by go_num,bx hbl hb6⟩,by simp [intOf];omega⟩
   ·have hi1:¬ (k:Int)<K:=by omega
    go_wp2
    go_ret
    exact ⟨rfl,bx hb15 hbl⟩
end Go.Proofs.YthmlndmlnlfhnaaGreatDoor
