package tests

import (
	"crypto/sha256"
	"encoding/hex"
	"slices"
	"strings"
	"testing"

	"loop.example/g00226/impl"
)

func TestKnownDigests(t *testing.T) {
	for _, c := range []struct{ data, digest string }{
		{"", "e3b0c44298fc1c149afbf4c8996fb92427ae41e4649b934ca495991b7852b855"},
		{"abc", "ba7816bf8f01cfea414140de5dae2223b00361a396177a9cb410ff61f20015ad"},
		{"abcdbcdecdefdefgefghfghighijhijkijkljklmklmnlmnomnopnopq", "248d6a61d20638b8e5c026930c3e6039a33ce45964ff2167f6ecedd419db06c1"},
		{strings.Repeat("a", 1), "ca978112ca1bbdcafac231b39a23dc4da786eff8147c4e72b9807785afee48bb"},
		{strings.Repeat("a", 54), "a3f01b6939256127582ac8ae9fb47a382a244680806a3f613a118851c1ca1d47"},
		{strings.Repeat("a", 55), "9f4390f8d30c2dd92ec9f095b65e2b9ae9b0a925a5258e241c9f1e910f734318"},
		{strings.Repeat("a", 56), "b35439a4ac6f0948b6d6f9e3c6af0f5f590ce20f1bde7090ef7970686ec6738a"},
		{strings.Repeat("a", 57), "f13b2d724659eb3bf47f2dd6af1accc87b81f09f59f2b75e5c0bed6589dfe8c6"},
		{strings.Repeat("a", 63), "7d3e74a05d7db15bce4ad9ec0658ea98e3f06eeecf16b4c6fff2da457ddc2f34"},
		{strings.Repeat("a", 64), "ffe054fe7ae0cb6dc65c3af9b61d5209f439851db43d0ba5997337df154668eb"},
		{strings.Repeat("a", 65), "635361c48bb9eab14198e76ea8ab7f1a41685d6ad62aa9146d301d4f17eb0ae0"},
		{strings.Repeat("a", 119), "31eba51c313a5c08226adf18d4a359cfdfd8d2e816b13f4af952f7ea6584dcfb"},
		{strings.Repeat("a", 120), "2f3d335432c70b580af0e8e1b3674a7c020d683aa5f73aaaedfdc55af904c21c"},
		{strings.Repeat("a", 127), "c57e9278af78fa3cab38667bef4ce29d783787a2f731d4e12200270f0c32320a"},
		{strings.Repeat("a", 128), "6836cf13bac400e9105071cd6af47084dfacad4e5e302c94bfed24e013afb73e"},
		{strings.Repeat("a", 129), "c12cb024a2e5551cca0e08fce8f1c5e314555cc3fef6329ee994a3db752166ae"},
		{strings.Repeat("a", 1000), "41edece42d63e8d9bf515a9ba6932e1c20cbc9f5a5d134645adb5db1b9737ea3"},
		{strings.Repeat("a", 60000), "956efae2219533b44d328242c6083c0eee503625290fc829cef07ecea6e07c23"},
		{strings.Repeat("a", 1000000), "cdc76e5c9914fb9281a1c7e284d73e67f1809a48a497200e046d39ccc7112cd0"},
	} {
		sum := impl.Sum(c.data)
		if len(sum) != 32 || hex.EncodeToString([]byte(sum)) != c.digest {
			t.Errorf("Sum of %d bytes: %x", len(c.data), sum)
		}
		if impl.Hex(sum) != c.digest {
			t.Errorf("Hex of Sum of %d bytes: %s", len(c.data), impl.Hex(sum))
		}
	}
}

// librarySum: the same digest from the library, which the program may not use.
func librarySum(data string) string {
	sum := sha256.Sum256([]byte(data))
	return string(sum[:])
}

func TestDigestsOfAllLengths(t *testing.T) {
	data := make([]byte, 1<<21)
	for i := range data {
		data[i] = byte(i*i>>3 + i)
	}
	lengths := []int{4095, 4096, 59999, 60000, 60001, 65535, 65536, 1 << 21}
	for n := range 700 {
		lengths = append(lengths, n)
	}
	for _, n := range lengths {
		if s := impl.Sum(string(data[:n])); s != librarySum(string(data[:n])) {
			t.Errorf("Sum of %d bytes: %x", n, s)
		}
	}
}

func TestHex(t *testing.T) {
	for _, c := range [][2]string{{"", ""}, {"\x00", "00"}, {"\x09\x0a", "090a"}, {"\xff", "ff"}, {"\x1f\xf1\xa9\x9a", "1ff1a99a"}, {"az", "617a"}} {
		if s := impl.Hex(c[0]); s != c[1] {
			t.Errorf("Hex of %q: %s", c[0], s)
		}
	}
	all := make([]byte, 256)
	for i := range all {
		all[i] = byte(i)
	}
	long := strings.Repeat(string(all), 300)
	if impl.Hex(long) != hex.EncodeToString([]byte(long)) {
		t.Error("Hex of all bytes")
	}
}

// listOf: the item of the list of these texts, put together from RlpText alone.
func listOf(t *testing.T, texts ...string) string {
	t.Helper()
	items := []string{}
	for _, text := range texts {
		items = append(items, impl.RlpText(text))
	}
	list := impl.RlpList(items)
	if list == "" {
		t.Fatal("no list")
	}
	return list
}

func TestTagged(t *testing.T) {
	for _, c := range []struct {
		tag   string
		parts []string
		list  string
	}{
		{"", nil, "\xc1\x80"},
		{"a", nil, "\xc1a"},
		{"", []string{""}, "\xc2\x80\x80"},
		{"leaf", []string{"\x00"}, "\xc6\x84leaf\x00"},
		{"leaf", []string{"\x80"}, "\xc7\x84leaf\x81\x80"},
		{"a", []string{"dog", ""}, "\xc6a\x83dog\x80"},
		{"a", []string{"do", "g"}, "\xc5a\x82dog"},
		{"ad", []string{"og", ""}, "\xc7\x82ad\x82og\x80"},
		{"a", []string{letters(53)}, "\xf7a\xb5" + letters(53)},
		{"a", []string{letters(54)}, "\xf8\x38a\xb6" + letters(54)},
		{"a", []string{letters(56)}, "\xf8\x3ba\xb8\x38" + letters(56)},
	} {
		got := impl.Tagged(c.tag, c.parts)
		if len(got) != 32 || got != impl.Sum(c.list) || got != librarySum(c.list) {
			t.Errorf("Tagged %q of %.40q: %x", c.tag, c.parts, got)
		}
	}
}

func TestTaggedAtItsLimits(t *testing.T) {
	half := impl.MaxRlp / 2
	ones := strings.Split(letters(1000), "")
	empties := make([]string, 1000)
	bytes30 := make([]string, 1000)
	for i := range bytes30 {
		bytes30[i] = letters(30)
	}
	for _, c := range []struct {
		why   string
		tag   string
		parts []string
	}{
		{"a part of half", "", []string{letters(half)}},
		{"a tag of half", letters(half), nil},
		{"a tag of half, an empty part", letters(half), []string{""}},
		{"tag and parts of half", "tag", []string{letters(half - 1003), letters(1000)}},
		{"1000 parts", "tag", ones},
		{"1000 empty parts", "tag", empties},
		{"1000 parts of half", "", bytes30},
	} {
		want := librarySum(listOf(t, append([]string{c.tag}, c.parts...)...))
		if got := impl.Tagged(c.tag, c.parts); got != want {
			t.Errorf("%s: %x", c.why, got)
		}
	}
	for _, c := range []struct {
		why   string
		tag   string
		parts []string
	}{
		{"a part of one more", "", []string{letters(half + 1)}},
		{"a tag of one more", letters(half + 1), nil},
		{"a part one too long with its tag", "a", []string{letters(half)}},
		{"a tag of half and a byte", letters(half), []string{"", "a"}},
		{"tag and parts of one more", "tag", []string{letters(half - 1003), letters(1001)}},
		{"a part above MaxRlp", "", []string{letters(impl.MaxRlp + 1)}},
		{"a tag above MaxRlp", letters(impl.MaxRlp + 1), nil},
		{"1001 parts", "tag", append(slices.Clone(ones), "a")},
		{"1001 empty parts", "", make([]string, 1001)},
		{"1000 parts of half and a tag", "a", bytes30},
	} {
		if got := impl.Tagged(c.tag, c.parts); got != "" {
			t.Errorf("%s: %x", c.why, got)
		}
	}
}

func TestTaggedLeavesItsArgument(t *testing.T) {
	room := []string{"dog", "", "spare", "spare"}
	kept := slices.Clone(room)
	first := impl.Tagged("a", room[:2])
	second := impl.Tagged("a", room[:2])
	if first != second || !slices.Equal(room, kept) {
		t.Errorf("%x, %x, %q", first, second, room)
	}
}
