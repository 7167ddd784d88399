import Derived.Test.YthmlndmlnlfhnaaGreatDoorK88e617fb
set_option maxRecDepth 100000
set_option maxHeartbeats 16000000
namespace Go.Proofs.YthmlndmlnlfhnaaGreatDoor
open Go.Lib (hid)
open Go.RowKit
theorem jki:(Tryz.prog.info? 83).map (fun i=>(i.zero,i.size,i.bytes))=some (some (.slice none 0 0),1,24):=by kernel_rfl
theorem jgi:Tryz.prog.underlying 104=some (.slice 83):=by kernel_rfl
theorem jys:(Tryz.prog.info? 104).map (fun i=>(i.zero,i.size,i.bytes))=some (some (.slice none 0 0),1,24):=by kernel_rfl
theorem jm6:Tryz.prog.underlying 195=some (.slice 104):=by kernel_rfl
theorem jsp (l:List (Int × Int)) (v:Value) (w:World) (h:Sl Enc.rng w (Old w) l v) (hl:l.length*16≤140737488355328) :
  Calls Tryz.prog 159 #[v] w (jji Enc.rng l w):=by
 have H:=hid h;obtain ⟨A,c,rfl,hc1,hc2,hn,-⟩:=h;cases A with
 | none =>
  have hc:=hn rfl;subst hc;have e:l = []:=List.length_eq_zero_iff.1 (by omega);subst e;have hq:=fun w=>Lib.run_eql_slice_nil (P:=Tryz.prog) w 83 87 none 0 0 0 0 jfz;clear hn;go_enter Tryz.func159,Tryz.ntmps159
  go_wp2;go_ret;exact ⟨_,rfl,Sl.nil,Below.refl _ _⟩
 | some a =>
  clear hn;unfold maxLen at hc2;have hq:=fun w=>Lib.run_eql_slice_nil (P:=Tryz.prog) w 83 87 (some a) l.length c 0 0 jfz;have HL:Hid (OwnG Enc.rng (w.alloc (.cells #[] 87)) w.heap.size w.heap.size 87 (.slice (some ⟨w.heap.size,0,none⟩) 0 0) []):=OwnG.lit w [] #[] (Nat.le_refl _) (by simp) rfl jb9.nil;have HS:=hid (H.out.onOld (jaa w (.cells #[] 87)));go_enter Tryz.func159,Tryz.ntmps159
  go_wp2_with (at_builtin;refine jb6 (E:=Enc.rng) _ rfl _ _ 83 rfl w.heap.size w.heap.size 87 16 (.agg #[.int .i64 0,.int .i64 0]) jfz jg1 rfl (by decide) _ _ rfl HL.out _ l rfl _ HS.out (fun _ _ h=>h) (by simp;omega) (by unfold maxLen;simp;omega) (by simp) ?_;intro v' w3 hown' hgrow3 _)
  go_ret;exact ⟨v',rfl,hown'.sl (Nat.le_refl _),(jaa w _).grown hgrow3 (by simp) (fun k h=>(HL.out.lt k h).1)⟩
theorem jp0 (b:List (List (Int × Int))) (v:Value) (w:World) (h:Sl Enc.rng.slice w (Old w) b v) (hl:b.length*24≤140737488355328) (hs:∀ s,s∈b→s.length*16≤140737488355328) :
  Calls Tryz.prog 171 #[v] w (jj6 Enc.rng.slice 83 w.heap.size b w):=by
 have H:=hid h;have HL:=hid hs;clear hs;obtain ⟨A,c,rfl,hc1,hc2,-⟩:=h;unfold maxLen at hc2;go_enter Tryz.func171,Tryz.ntmps171
 go_wp2;go_loopw [3,8] (fun u i wr=>∃ k:Nat,k≤b.length∧i = .int .i64 k∧OwnG Enc.rng.slice wr w.heap.size w.heap.size 83 u (b.take k)∧Below w.heap.size w wr) (fun _ i _=>b.length-(intOf i).toNat)
 case atStart=>exact ⟨0,Nat.zero_le _,rfl,OwnG.nil,Below.refl _ _⟩
 case round =>
  obtain ⟨k,hk,rfl,hown,hb⟩:=hrel;have hsz:=hb.size;by_cases hlt:k<b.length
  ·obtain ⟨bb,o,s,us,rfl,_,hx,h1,h2⟩:=(H.out.below (fun _ h=>h) hb).sl_at hlt;have HS:=hid (h2.more (S':=Old wr) fun _ h=>Nat.lt_of_lt_of_le h hsz);have HO:=hid hown;have HT:=hid (jai hx.out);have hlen:(b.take k).length=k:=by rw [List.length_take];omega
   have HN:=hid hlen;clear h2 hown hlen;go_wp2_with fail
   refine (jsp s _ _ HS.out (HL.out s (List.mem_of_getElem? hx.out))).mono ?_;rintro e w1 ⟨v1,rfl,hn1,hb1⟩;obtain ⟨A1,c1,rfl,-,-⟩:=hn1.form;have HO1:=hid ((HO.out.next hb1).alloc (.cells #[.slice A1 s.length c1] 83));have HY:Hid (Enc.rng.slice.rd (w1.alloc (.cells #[.slice A1 s.length c1] 83)) (Off w.heap.size (w1.alloc (.cells #[.slice A1 s.length c1] 83)) u3) s [.slice A1 s.length c1]):=⟨_,rfl,(hn1.on (jaa _ _)).more (jet HO.out hsz (Nat.le_refl _))⟩;have hb2:Below w.heap.size w (w1.alloc (.cells #[.slice A1 s.length c1] 83)):=(jbh hb hsz hb1).alloc (Nat.le_trans hsz hb1.size) _;have hsz1:=hb1.size;clear hn1 hb1;go_wp2_with (at_builtin;refine jaf (E:=Enc.rng.slice) _ rfl _ _ 104 rfl w.heap.size w.heap.size 83 24 (.slice none 0 0) jgi jki rfl (by decide) _ _ rfl HO1.out ⟨w1.heap.size,0,none⟩ s [.slice A1 s.length c1] rfl HY.out (cell_one_new _ _ _) (by rw [HN.out];omega) (by rw [HN.out];unfold maxLen;omega) (by simp;omega) ?_;intro v' w3 hown' hgrow3 _)
   refine ⟨⟨k+1,by omega,by go_num,by rw [HT.out];exact hown',hb2.grown hgrow3 (by simp;omega) (fun _ hr=>(HO.out.lt _ hr).1)⟩,by simp [intOf];omega⟩
  ·go_wp2;go_ret;have e:b.take k=b:=List.take_of_length_le (by omega);exact ⟨_,rfl,by rw [← e];exact hown,hb⟩
theorem ynw (lo:Nat) (hd tl:List (List (Int × Int))) (s:List (Int × Int)) (vh vs vt:Value) (w:World) (h1:Sl Enc.rng.slice w (Old w) hd vh) (h2:Sl Enc.rng w (From lo w) s vs) (h3:Sl Enc.rng.slice w (Old w) tl vt)
  (hlo:lo≤w.heap.size) (hl:(hd.length+1+tl.length)*24≤140737488355328) (hs1:∀ s,s∈hd→s.length*16≤140737488355328) (hs2:∀ s,s∈tl→s.length*16≤140737488355328) :
  Calls Tryz.prog 219 #[vh,vs,vt] w (jj6 Enc.rng.slice 83 lo (hd ++ s :: tl) w):=by
 have H1:=hid h1;have H2:=hid h2;have H3:=hid h3;have HS1:=hid hs1;have HS2:=hid hs2;obtain ⟨A,c,rfl,-,-⟩:=h2.form;clear h1 h2 h3 hs1 hs2;go_enter Tryz.func219,Tryz.ntmps219
 go_wp2_with fail
 refine (jp0 hd vh _ H1.out (by omega) HS1.out).mono ?_;rintro e w1 ⟨v1,rfl,ho1,hb1⟩;have hsz1:=hb1.size;have HO1:=hid ((ho1.monoLo hlo).alloc (.cells #[.slice A s.length c] 83));have hb1':=hb1.alloc hsz1 (.cells #[.slice A s.length c] 83);have HY:Hid (Enc.rng.slice.rd (w1.alloc (.cells #[.slice A s.length c] 83)) (Off lo (w1.alloc (.cells #[.slice A s.length c] 83)) v1) s [.slice A s.length c]):=by
  refine ⟨_,rfl,(H2.out.below (fun _ h=>h.2) hb1').more fun k hk=>⟨hk.1,?_,fun hv=>?_⟩⟩
  ·have:=hk.2;simp;omega
  ·have:=(ho1.lt k hv).1;have:=hk.2;omega
 have HB:=hid ho1;clear ho1 hb1;go_wp2_with (at_builtin;refine jaf (E:=Enc.rng.slice) _ rfl _ _ 104 rfl w.heap.size lo 83 24 (.slice none 0 0) jgi jki rfl (by decide) _ _ rfl HO1.out ⟨w1.heap.size,0,none⟩ s [.slice A s.length c] rfl HY.out (cell_one_new _ _ _) (by omega) (by unfold maxLen;omega) (by simp;omega) ?_;intro v2 w2 ho2 hg2 _)
 have hb2:Below w.heap.size w w2:=hb1'.grown hg2 (by simp;omega) (fun _ hr=>(HB.out.lt _ hr).1);have HO2:=hid ho2;have H3':=hid (H3.out.onOld hb2);clear ho2 hg2 hb1';refine (jp0 tl vt _ H3'.out (by omega) HS2.out).mono ?_;rintro e w3 ⟨v3,rfl,ho3,hb3⟩;have hsz2:=hb2.size;have HO3:=hid (HO2.out.next hb3);have HX:=hid (ho3.sl (Nat.le_refl _));have HF:=hid (fun (y:List (Int × Int)) cs (h:Enc.rng.slice.rd w3 (From w2.heap.size w3) y cs)=>Enc.more _ h (jet HO2.out (by omega) (Nat.le_refl w3.heap.size)));have hb3':Below w.heap.size w w3:=bx hb2 hb3;clear ho3 hb3;go_wp2_with (at_builtin;refine jb6 (E:=Enc.rng.slice) _ rfl _ _ 104 rfl w.heap.size lo 83 24 (.slice none 0 0) jgi jki rfl (by decide) _ _ rfl HO3.out _ tl rfl _ HX.out HF.out (by simp;omega) (by unfold maxLen;simp;omega) (by have:=hb3'.size;omega) ?_;intro v4 w4 ho4 hg4 _)
 go_ret;refine ⟨v4,rfl,by rw [List.append_cons];exact ho4,hb3'.grown hg4 hb3'.size (fun _ hr=>(HO3.out.lt _ hr).1)⟩
def jcj (l:List (List (Int × Int))) (ok:Bool) (w:World) (e:Ending) (w':World):Prop:=∃ v,e = .returned (.tuple #[v,.bool ok])∧Sl Enc.rng.slice w' (From w.heap.size w') l v∧Below w.heap.size w w'
theorem jcj.no {a b:List (List (Int × Int))} {w w':World} (h:jcy a b=false) (hb:Below w.heap.size w w'):jcj (jdh a b) (jcy a b) w (.returned (.tuple #[.slice none 0 0,.bool false])) w' :=
 ⟨.slice none 0 0,by rw [h],by unfold jdh;rw [h];exact Sl.nil,hb⟩
theorem jcj.yes {a b:List (List (Int × Int))} {w w':World} {v:Value} (h:jcy a b=true) (hs:Sl Enc.rng.slice w' (From w.heap.size w') (jbe a b) v) (hb:Below w.heap.size w w'):jcj (jdh a b) (jcy a b) w (.returned (.tuple #[v,.bool true])) w' :=
 ⟨v,by rw [h],by unfold jdh;rw [if_pos h];exact hs,hb⟩
theorem jyu {a b:List (List (Int × Int))} {k:Nat} {s t:List (Int × Int)} (ha:a[k]? = some s) (hb:b[k]? = some t):(jbe a b)[k]? = some (jbq s t):=by
 simp [jbe,List.getElem?_zipWith,ha,hb]
theorem jny {b:List (List (Int × Int))} (h:jcf b=true) {k:Nat} {s:List (Int × Int)} (hk:b[k]? = some s):jbv s=true:=jma h s (List.mem_of_getElem? hk)
theorem jpx {s:List (Int × Int)} (h:jbv s=true):s.length≤2000001:=jdn h
theorem joh {b:List (List (Int × Int))} {k:Nat} {s:List (Int × Int)} (h:b[k]? = some s) (h0:s.length=0):jff b=false:=by
 cases hf:jff b
 ·rfl
 ·simp [jff] at hf;have:=hf s (List.mem_of_getElem? h)
  omega
theorem jhx (a b:List (List (Int × Int))) (va vb:Value) (w:World) (ha:Sl Enc.rng.slice w (Old w) a va) (hb:Sl Enc.rng.slice w (Old w) b vb) :
  Calls Tryz.prog 218 #[va,vb] w (jcj (jdh a b) (jcy a b) w):=by
 have HA:=hid ha;have HB:=hid hb;cases hal:jjo a b
 ·have HL:=hid hal;clear hal ha hb;go_enter Tryz.func218,Tryz.ntmps218
  go_wp2_with fail
  refine (jnf a b _ _ _ HA.out HB.out).mono ?_;rintro e w1 ⟨rfl,hb1⟩;rw [HL.out];go_wp2;go_ret2;have e1:jcy a b=false:=by simp [jcy,HL.out]
  exact jcj.no e1 hb1
 ·have HL:=hid hal;obtain ⟨hga,hgb⟩:=jfk.1 hal;have HGA:=hid (jae.1 hga);have HGB:=hid (jae.1 hgb);clear hal hga hgb;obtain ⟨A,c,rfl,hc1,hc2,-⟩:=ha;obtain ⟨B,d,rfl,hd1,hd2,-⟩:=hb;unfold maxLen at hc2 hd2;go_enter Tryz.func218,Tryz.ntmps218
  go_wp2_with fail
  refine (jnf a b _ _ _ HA.out HB.out).mono ?_;rintro e w1 ⟨rfl,hb1⟩;rw [HL.out];have HA1:=hid (HA.out.onOld hb1);have HB1:=hid (HB.out.onOld hb1);have hsz1:=hb1.size;have lenA:a.length≤3:=by have:=HGA.out;omega
  have lenB:b.length=a.length:=by have:=HGB.out;omega
  have HLB:=hid lenB;clear lenB;go_wp2;go_loopw [6,15] (fun u i wr=>∃ k:Nat,k≤a.length∧i = .int .i64 k∧Hid (jff ((jbe a b).take k)=true)∧OwnG Enc.rng.slice wr w1.heap.size w1.heap.size 83 u ((jbe a b).take k)∧Below w1.heap.size w1 wr) (fun _ i _=>a.length-(intOf i).toNat)
  case atStart=>exact ⟨0,Nat.zero_le _,rfl,rfl,OwnG.nil,Below.refl _ _⟩
  case round =>
   obtain ⟨k,hk,rfl,hfull,hown,hbl⟩:=hrel;have hsz:=hbl.size;have HLI:Hid ((jbe a b).length=a.length):=by have:=HLB.out;simp [jbe,Hid];omega
   by_cases hlt:k<a.length
   ·have hltb:k<b.length:=by have:=HLB.out;omega
    obtain ⟨ba,oa,s,us,rfl,_,hs,a1,a2⟩:=(HA1.out.below (fun _ h=>h) hbl).sl_at hlt;obtain ⟨bb,ob,t,ut,rfl,_,ht,b1,b2⟩:=(HB1.out.below (fun _ h=>h) hbl).sl_at hltb;have HS:=hid (a2.more (S':=Old wr) fun _ h=>Nat.lt_of_lt_of_le h hsz);have HT:=hid (b2.more (S':=Old wr) fun _ h=>Nat.lt_of_lt_of_le h hsz);have HO:=hid hown;have HI:=hid (jyu hs.out ht.out);have ls:=jpx (jny HGA.out.2 hs.out);have lt:=jpx (jny HGB.out.2 ht.out);clear a2 b2 hown;go_wp2_with fail
    go_still_tail 8,(by kernel_rfl)
    go_wp2_with fail
    refine (jge s t _ _ _ (by exact HS.out) (by exact HT.out) (by omega)).mono ?_;rintro e w2 ⟨v2,rfl,ho2,hg2,_⟩;have hb2:Below wr.heap.size wr w2:=(Below.refl _ _).drew.grown hg2 (Nat.le_refl _) (fun _ h=>by cases h);have hn2:Sl Enc.rng w2 (From wr.heap.size w2) (jbq s t) v2:=ho2.from_;obtain ⟨A2,c2,rfl,hA1,hA2⟩:=hn2.form;clear hg2 ho2;by_cases h0:(jbq s t).length=0
    ·have h0':((jbq s t).length:Int)=0:=by omega
     have HF:=hid (joh HI.out h0);have H0:=hid h0;clear h0;go_wp2;go_ret2;have e1:jcy a b=false:=by simp [jcy,HF.out]
     exact jcj.no e1 (bx hb1 (bx hbl hb2))
    ·have h0':(((jbq s t).length:Int) == 0)=false:=beq_eq_false_iff_ne.2 (by omega);have HFU:Hid (jff ((jbe a b).take (k+1))=true):=by
      show jff _=true
      rw [jai HI.out];have h1:=hfull.out;simp only [jff,List.all_append,Bool.and_eq_true] at h1 ⊢;refine ⟨h1,?_⟩;simp only [List.all_cons,List.all_nil,Bool.and_true,decide_eq_true_eq];omega
     have HN:Hid (((jbe a b).take k).length=k):=by have:=HLI.out;rw [Hid,List.length_take];omega
     have HTK:=hid (jai HI.out);generalize jbq s t=C at *;have HO1:=hid ((HO.out.next hb2).alloc (.cells #[.slice A2 C.length c2] 83));have HY:Hid (Enc.rng.slice.rd (w2.alloc (.cells #[.slice A2 C.length c2] 83)) (Off w1.heap.size (w2.alloc (.cells #[.slice A2 C.length c2] 83)) u6) C [.slice A2 C.length c2]):=⟨_,rfl,(hn2.on (jaa _ _)).more (jet HO.out hsz (Nat.le_refl _))⟩;have hb3:Below w1.heap.size w1 (w2.alloc (.cells #[.slice A2 C.length c2] 83)):=(bx hbl hb2).alloc (Nat.le_trans hsz hb2.size) _;have hsz2:=hb2.size;clear hn2 hb2;go_wp2_with (at_builtin;refine jaf (E:=Enc.rng.slice) _ rfl _ _ 104 rfl w1.heap.size w1.heap.size 83 24 (.slice none 0 0) jgi jki rfl (by decide) _ _ rfl HO1.out ⟨w2.heap.size,0,none⟩ C [.slice A2 C.length c2] rfl HY.out (cell_one_new _ _ _) (by rw [HN.out];omega) (by rw [HN.out];unfold maxLen;omega) (by simp;omega) ?_;intro v' w3 hown' hgrow3 _)
     refine ⟨⟨k+1,by omega,by go_num,HFU,by rw [HTK.out];exact hown',hb3.grown hgrow3 (by simp;omega) (fun _ hr=>(HO.out.lt _ hr).1)⟩,by simp [intOf];omega⟩
   ·go_wp2;go_ret2;have e:(jbe a b).take k=jbe a b:=List.take_of_length_le (by have:=HLI.out;omega);have hf:=hfull.out;rw [e] at hf hown;have e1:jcy a b=true:=by simp [jcy,HL.out,hf]
    exact jcj.yes e1 ((hown.sl (Nat.le_refl _)).more fun k hk=>⟨Nat.le_trans hsz1 hk.1,hk.2⟩) (bx hb1 hbl)
end Go.Proofs.YthmlndmlnlfhnaaGreatDoor
