package tests

import (
	"math"
	"slices"
	"strconv"
	"strings"
	"testing"

	"loop.example/g00226/impl"
)

// noIndexes: no places of leaves; some are one when only their lowest bits or byte are looked at.
var noIndexes = []int64{-1, impl.KeyCount, impl.KeyCount + 1, 7, 255, 256, -256, math.MaxInt64, math.MinInt64, math.MinInt64 + 1}

// wrongSigners: not right, one way or another.
func wrongSigners() []impl.Signer {
	list := []impl.Signer{{}}
	for _, used := range []int64{-1, impl.KeyCount + 1, 256, math.MaxInt64, math.MinInt64} {
		list = append(list, impl.Signer{Seed: impl.Sum("seed"), Used: used})
	}
	for _, seed := range wrongSizes() {
		list = append(list, impl.Signer{Seed: seed}, impl.Signer{Seed: seed, Used: impl.KeyCount})
	}
	return list
}

func signed(t *testing.T, s impl.Signer, msg string) (impl.Signer, impl.Signature) {
	t.Helper()
	next, sig, ok := impl.SignNext(s, msg)
	if !ok {
		t.Fatalf("SignNext of %x, %d refuses", s.Seed, s.Used)
	}
	return next, sig
}

func rootOf(t *testing.T, seed string) string {
	t.Helper()
	root, ok := impl.KeyRoot(seed)
	if !ok || len(root) != 32 {
		t.Fatalf("KeyRoot of %x: %x, %v", seed, root, ok)
	}
	return root
}

// leavesOf: the public texts of all leaves.
func leavesOf(t *testing.T, seed string) []string {
	t.Helper()
	var leaves []string
	for i := range impl.KeyCount {
		public, ok := impl.OncePublic(libraryTagged(t, "leaf", seed, oneByte(i)))
		if !ok {
			t.Fatal("no public text")
		}
		leaves = append(leaves, public)
	}
	return leaves
}

func TestKnownKeys(t *testing.T) {
	for _, c := range []struct{ seed, root, first, last string }{
		{impl.Sum("seed"), "a8ce65bda71a405b15f2c28234659f6f6e646d36655e8d6c305a5a6823f82972", "e43c0f0b914bf9819b533f5ebdc4491df859c407596342bad42bb613b84a1769", "bdb75b4148bda66de90f85a8ce4e249c3841a67c778666dde3cb051a9cda7196"},
		{strings.Repeat("\x00", 32), "67f0e1256370a37270f28b27837a0521f8175926eacdf8a12a3e7d5e9b7b1836", "350b6ce87215d3f205f81618550f036f0bb685fcf3398fd76382b60d991ede60", "e420915ea477cc9a52108db3f527c86fc049be62dac8378d33a6ab745d6dfe59"},
		{strings.Repeat("\xff", 32), "a49d936a41b202286fdff28ff47971f1bf13ba9f794c11bf2913ad72b5109412", "6b07b9c3302cbfe4f844ff0c67907af5b34c75cca89e98c8a19bd267e864b712", "ca172bd69831003c6e43465f65d40ac9142ac71d977418781115e446a18f8afa"},
	} {
		if root := rootOf(t, c.seed); impl.Hex(root) != c.root {
			t.Errorf("KeyRoot of %x: %x", c.seed, root)
		}
		if leaf, ok := impl.LeafSeed(c.seed, 0); !ok || impl.Hex(leaf) != c.first {
			t.Errorf("LeafSeed of %x, 0: %x, %v", c.seed, leaf, ok)
		}
		if leaf, ok := impl.LeafSeed(c.seed, impl.KeyCount-1); !ok || impl.Hex(leaf) != c.last {
			t.Errorf("LeafSeed of %x, KeyCount - 1: %x, %v", c.seed, leaf, ok)
		}
	}
}

func TestLeafSeeds(t *testing.T) {
	for _, seed := range seeds() {
		for i := range impl.KeyCount {
			if leaf, ok := impl.LeafSeed(seed, int64(i)); !ok || leaf != libraryTagged(t, "leaf", seed, oneByte(i)) {
				t.Errorf("LeafSeed of %x, %d: %x, %v", seed, i, leaf, ok)
			}
		}
		for _, i := range noIndexes {
			if leaf, ok := impl.LeafSeed(seed, i); ok || leaf != "" {
				t.Errorf("LeafSeed of %x, %d: %x, %v", seed, i, leaf, ok)
			}
		}
	}
	for _, seed := range wrongSizes() {
		if leaf, ok := impl.LeafSeed(seed, 0); ok || leaf != "" {
			t.Errorf("LeafSeed of %d bytes: %x, %v", len(seed), leaf, ok)
		}
		if root, ok := impl.KeyRoot(seed); ok || root != "" {
			t.Errorf("KeyRoot of %d bytes: %x, %v", len(seed), root, ok)
		}
	}
}

func TestSignersThatAreRight(t *testing.T) {
	for _, seed := range seeds() {
		for used := range int64(impl.KeyCount + 1) {
			if !impl.SignerOk(impl.Signer{Seed: seed, Used: used}) {
				t.Errorf("SignerOk of %x, %d", seed, used)
			}
		}
	}
	for _, s := range wrongSigners() {
		if impl.SignerOk(s) {
			t.Errorf("SignerOk of %d bytes, %d", len(s.Seed), s.Used)
		}
		wantRefused(t, s)
	}
}

// wantRefused: the signer as it is, and nothing signed.
func wantRefused(t *testing.T, s impl.Signer) {
	t.Helper()
	next, sig, ok := impl.SignNext(s, "hello")
	if ok || next != s || sig.Index != 0 || len(sig.Once) != 0 || len(sig.Path) != 0 {
		t.Errorf("SignNext of %d bytes, %d: %d bytes, %d, %x, %v", len(s.Seed), s.Used, len(next.Seed), next.Used, sig, ok)
	}
}

func TestEachKeyIsUsedOnce(t *testing.T) {
	for _, seed := range seeds() {
		root := rootOf(t, seed)
		s := impl.Signer{Seed: seed}
		for i := range int64(impl.KeyCount) {
			msg := "message " + strconv.FormatInt(i, 10)
			next, sig := signed(t, s, msg)
			if sig.Index != i || next.Seed != seed || next.Used != i+1 {
				t.Errorf("signature %d: Index %d, then %x, %d", i, sig.Index, next.Seed, next.Used)
			}
			leaf, _ := impl.LeafSeed(seed, i)
			if once, ok := impl.OnceSign(leaf, msg); !ok || !slices.Equal(sig.Once, once) {
				t.Errorf("signature %d is not by its leaf's seed", i)
			}
			if !impl.Verify(root, msg, sig) {
				t.Errorf("signature %d is not verified", i)
			}
			s = next
		}
		wantRefused(t, s)
		wantRefused(t, impl.Signer{Seed: seed, Used: impl.KeyCount})
	}
}

func TestAllMessagesAreVerified(t *testing.T) {
	root := rootOf(t, impl.Sum("seed"))
	for _, msg := range messages() {
		for used := range int64(impl.KeyCount) {
			_, sig := signed(t, impl.Signer{Seed: impl.Sum("seed"), Used: used}, msg)
			for _, other := range messages() {
				if impl.Verify(root, other, sig) != (other == msg) {
					t.Errorf("a signature of %.10q by leaf %d under %.10q", msg, used, other)
				}
			}
		}
	}
}

func TestSidesOfEachNode(t *testing.T) {
	for _, seed := range seeds() {
		leaves := leavesOf(t, seed)
		left := libraryTagged(t, "node", leaves[0], leaves[1])
		right := libraryTagged(t, "node", leaves[2], leaves[3])
		root := libraryTagged(t, "node", left, right)
		if got := rootOf(t, seed); got != root {
			t.Fatalf("KeyRoot of %x: %x", seed, got)
		}
		for i, path := range [][]string{{leaves[1], right}, {leaves[0], right}, {leaves[3], left}, {leaves[2], left}} {
			_, sig := signed(t, impl.Signer{Seed: seed, Used: int64(i)}, "hello")
			if !slices.Equal(sig.Path, path) {
				t.Errorf("the path of leaf %d: %x", i, sig.Path)
			}
			if got, ok := impl.RootOfSignature("hello", sig); !ok || got != root {
				t.Errorf("leaf %d leads to %x, %v", i, got, ok)
			}
		}
	}
}

// The bits of Index say the sides, whatever stands in Path.
func TestSidesAreThoseOfTheIndex(t *testing.T) {
	_, sig := signed(t, impl.Signer{Seed: impl.Sum("seed")}, "hello")
	leaf, _ := impl.OncePublicOf("hello", sig.Once)
	low, high := letters(32), strings.Repeat("\x00", 32)
	node := func(a, b string) string { return libraryTagged(t, "node", a, b) }
	for i, want := range []string{
		node(node(leaf, low), high), node(node(low, leaf), high),
		node(high, node(leaf, low)), node(high, node(low, leaf)),
	} {
		other := impl.Signature{Index: int64(i), Once: sig.Once, Path: []string{low, high}}
		if got, ok := impl.RootOfSignature("hello", other); !ok || got != want {
			t.Errorf("Index %d leads to %x, %v", i, got, ok)
		}
		if !impl.Verify(want, "hello", other) {
			t.Errorf("Index %d is not verified", i)
		}
	}
}

// wantElsewhere: it leads to a root, which verifies it, but not to this one.
func wantElsewhere(t *testing.T, why, root, msg string, sig impl.Signature) {
	t.Helper()
	other, ok := impl.RootOfSignature(msg, sig)
	if !ok || other == root || len(other) != 32 {
		t.Errorf("%s: leads to %x, %v", why, other, ok)
	}
	if impl.Verify(root, msg, sig) || !impl.Verify(other, msg, sig) {
		t.Errorf("%s: not verified by just the root to which it leads", why)
	}
}

func TestJustTheRootVerifies(t *testing.T) {
	seed := impl.Sum("seed")
	root := rootOf(t, seed)
	for used := range int64(impl.KeyCount) {
		_, sig := signed(t, impl.Signer{Seed: seed, Used: used}, "hello")
		for _, other := range append(wrongSizes(), rootOf(t, impl.Sum("another seed")), seed, root[:31], root+"\x00", root[:31]+oneByte(int(root[31])^1), impl.Hex(root)) {
			if impl.Verify(other, "hello", sig) {
				t.Errorf("verified by %.40x", other)
			}
		}
		wantElsewhere(t, "another text", root, "hallo", sig)
		for i := range int64(impl.KeyCount) {
			if i != used {
				wantElsewhere(t, "another Index", root, "hello", impl.Signature{Index: i, Once: sig.Once, Path: sig.Path})
			}
		}
		wantElsewhere(t, "Path the other way", root, "hello", impl.Signature{Index: used, Once: sig.Once, Path: []string{sig.Path[1], sig.Path[0]}})
		for i, text := range sig.Path {
			wantElsewhere(t, "another Path", root, "hello", impl.Signature{Index: used, Once: sig.Once, Path: changedAt(sig.Path, i, impl.Sum(text))})
		}
		for i, text := range sig.Once {
			wantElsewhere(t, "another Once", root, "hello", impl.Signature{Index: used, Once: changedAt(sig.Once, i, impl.Sum(text)), Path: sig.Path})
		}
	}
}

// wantNowhere: it leads to no root, and nothing verifies it.
func wantNowhere(t *testing.T, why string, sig impl.Signature) {
	t.Helper()
	if got, ok := impl.RootOfSignature("hello", sig); ok || got != "" {
		t.Errorf("%s: leads to %x, %v", why, got, ok)
	}
	if impl.Verify(rootOf(t, impl.Sum("seed")), "hello", sig) || impl.Verify("", "hello", sig) {
		t.Errorf("%s: verified", why)
	}
}

func TestSignaturesOfAnotherForm(t *testing.T) {
	_, sig := signed(t, impl.Signer{Seed: impl.Sum("seed"), Used: 2}, "hello")
	wantNowhere(t, "nothing", impl.Signature{})
	for _, i := range append(slices.Clone(noIndexes), sig.Index+impl.KeyCount, sig.Index-impl.KeyCount, sig.Index+256) {
		wantNowhere(t, "Index "+strconv.FormatInt(i, 10), impl.Signature{Index: i, Once: sig.Once, Path: sig.Path})
	}
	for _, path := range [][]string{nil, {}, sig.Path[:1], sig.Path[1:], append(slices.Clone(sig.Path), sig.Path[0]), append(slices.Clone(sig.Path), "")} {
		wantNowhere(t, "a Path of "+strconv.Itoa(len(path)), impl.Signature{Index: sig.Index, Once: sig.Once, Path: path})
	}
	for _, once := range [][]string{nil, sig.Once[:18], sig.Once[1:], append(slices.Clone(sig.Once), sig.Once[0])} {
		wantNowhere(t, "a Once of "+strconv.Itoa(len(once)), impl.Signature{Index: sig.Index, Once: once, Path: sig.Path})
	}
	for i, text := range sig.Path {
		for _, wrong := range append(wrongSizes(), text[:31], text+"\x00") {
			wantNowhere(t, "a text in Path", impl.Signature{Index: sig.Index, Once: sig.Once, Path: changedAt(sig.Path, i, wrong)})
		}
	}
	for i, text := range sig.Once {
		for _, wrong := range []string{"", text[:31], text + "\x00"} {
			wantNowhere(t, "a text in Once", impl.Signature{Index: sig.Index, Once: changedAt(sig.Once, i, wrong), Path: sig.Path})
		}
	}
}

func TestSigningLeavesItsArguments(t *testing.T) {
	s := impl.Signer{Seed: impl.Sum("seed"), Used: 1}
	root := rootOf(t, s.Seed)
	_, sig := signed(t, s, "hello")
	once, onceRoom := withSpare(sig.Once)
	path, pathRoom := withSpare(sig.Path)
	onceKept, pathKept := slices.Clone(onceRoom), slices.Clone(pathRoom)
	if !impl.Verify(root, "hello", impl.Signature{Index: sig.Index, Once: once, Path: path}) {
		t.Error("not verified")
	}
	if !slices.Equal(onceRoom, onceKept) || !slices.Equal(pathRoom, pathKept) {
		t.Error("written into an argument")
	}
	clear(sig.Once)
	if !slices.Equal(sig.Path, pathKept[:impl.KeyDeep]) {
		t.Error("Once and Path share memory")
	}
	clear(sig.Path)
	_, again := signed(t, s, "hello")
	if again.Index != 1 || !slices.Equal(again.Once, once) || !slices.Equal(again.Path, path) {
		t.Error("two answers are unlike, or share memory")
	}
}
