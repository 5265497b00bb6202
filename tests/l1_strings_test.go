package tests

import (
	"math"
	"slices"
	"strconv"
	"strings"
	"testing"

	"loop.example/g00889/impl"
)

// stringsOver returns all strings of at most size bytes of an alphabet.
func stringsOver(alphabet string, size int) []string {
	all := []string{""}
	for start := 0; size > 0; size-- {
		end := len(all)
		for _, s := range all[start:end] {
			for i := 0; i < len(alphabet); i++ {
				all = append(all, s+alphabet[i:i+1])
			}
		}
		start = end
	}
	return all
}

// allBytes returns the string of the bytes 0..255.
func allBytes() string {
	b := []byte{}
	for c := range 256 {
		b = append(b, byte(c))
	}
	return string(b)
}

func TestLimitsOfStrings(t *testing.T) {
	if impl.MaxString != 4000 || impl.MaxDecimal != 999999 {
		t.Error("limits", impl.MaxString, impl.MaxDecimal)
	}
}

func TestFormatIntWritesDecimals(t *testing.T) {
	for n, want := range map[int]string{
		0: "0", 1: "1", -1: "-1", 9: "9", 10: "10", -10: "-10", -12: "-12", 100: "100", 1234: "1234",
		impl.MaxDecimal: "999999", -impl.MaxDecimal: "-999999",
	} {
		if s, ok := impl.FormatInt(n); !ok || s != want {
			t.Errorf("FormatInt(%d) = %q, %v", n, s, ok)
		}
	}
}

func TestFormatIntRejectsOutOfRange(t *testing.T) {
	for _, n := range []int{
		impl.MaxDecimal + 1, -impl.MaxDecimal - 1, 1000001, -1000001,
		math.MaxInt32, math.MinInt32, 1 << 32, 1<<32 + 5, math.MaxInt, math.MinInt, math.MinInt + 1,
	} {
		if s, ok := impl.FormatInt(n); ok || s != "" {
			t.Errorf("FormatInt(%d) = %q, %v", n, s, ok)
		}
	}
}

func TestEveryDecimalRoundTrips(t *testing.T) {
	for n := -impl.MaxDecimal; n <= impl.MaxDecimal; n++ {
		s, ok := impl.FormatInt(n)
		if !ok || s != strconv.Itoa(n) {
			t.Fatalf("FormatInt(%d) = %q, %v", n, s, ok)
		}
		if m, ok := impl.ParseInt(s); !ok || m != n {
			t.Fatalf("ParseInt(%q) = %d, %v", s, m, ok)
		}
	}
}

func TestParseIntRejectsOtherStrings(t *testing.T) {
	for _, s := range []string{
		"", "-", "+", "+0", "+1", "-0", "-00", "00", "01", "-01", "0001", "--1", "-+1", "+-1",
		"1000000", "-1000000", "9999990", "0999999",
		" 1", "1 ", "1\n", "\t1", "1x", "x1", "0x1", "1_0", "1e3", "1.0", "1,000", "1-", "\x001", "1\x00",
		"\u0661", "\uff11", "\u22121", "\xff", "one",
		"4294967297", "9223372036854775807", "9223372036854775808", "-9223372036854775808",
		"18446744073709551616", "18446744073709551617", "-18446744073709551617",
		strings.Repeat("0", 5000) + "1", strings.Repeat("9", 5000),
	} {
		if n, ok := impl.ParseInt(s); ok || n != 0 {
			t.Errorf("ParseInt(%q) = %d, %v", s, n, ok)
		}
	}
}

func TestParseIntAcceptsExactlyWhatIsFormatted(t *testing.T) {
	formatted := map[string]int{}
	for n := -9999; n <= 99999; n++ {
		s, _ := impl.FormatInt(n)
		formatted[s] = n
	}
	for _, s := range stringsOver("+-0159_ ", 5) {
		want, is := formatted[s]
		if n, ok := impl.ParseInt(s); ok != is || n != want {
			t.Errorf("ParseInt(%q) = %d, %v", s, n, ok)
		}
	}
}

func TestSplitString(t *testing.T) {
	for _, c := range []struct {
		s, sep string
		want   []string
	}{
		{"a,,b", ",", []string{"a", "", "b"}},
		{"", ",", []string{""}},
		{",", ",", []string{"", ""}},
		{",a", ",", []string{"", "a"}},
		{"a,", ",", []string{"a", ""}},
		{"a;b", ",", []string{"a;b"}},
		{"one two  three", " ", []string{"one", "two", "", "three"}},
		{"a\nb\n", "\n", []string{"a", "b", ""}},
		{"a\x00b", "\x00", []string{"a", "b"}},
		{"\u00e9", "\xa9", []string{"\xc3", ""}},
		{"\xff\xfea\xff", "\xff", []string{"", "\xfea", ""}},
		{"a\\,b", ",", []string{"a\\", "b"}},
		{"aXbxc", "x", []string{"aXb", "c"}},
	} {
		if got, ok := impl.SplitString(c.s, c.sep); !ok || !slices.Equal(got, c.want) {
			t.Errorf("SplitString(%q, %q) = %q, %v", c.s, c.sep, got, ok)
		}
	}
}

func TestSplitStringSplitsAtEveryByte(t *testing.T) {
	all := allBytes()
	for c := range 256 {
		want := []string{all[:c], all[c+1:]}
		if got, ok := impl.SplitString(all, all[c:c+1]); !ok || !slices.Equal(got, want) {
			t.Errorf("at byte %d: %q, %v", c, got, ok)
		}
	}
}

func TestSplitStringRejectsSeparators(t *testing.T) {
	for _, sep := range []string{"", ",,", ", ", "ab", "\u00e9", "\u2028", strings.Repeat(",", 300)} {
		for _, s := range []string{"", "a,,b", ", ", "ab", sep, strings.Repeat(",", impl.MaxString)} {
			if got, ok := impl.SplitString(s, sep); ok || len(got) != 0 {
				t.Errorf("SplitString(%q, %q) = %q, %v", s, sep, got, ok)
			}
		}
	}
}

func TestSplitStringAtItsLimit(t *testing.T) {
	full := strings.Repeat("a", impl.MaxString)
	if got, ok := impl.SplitString(full, ","); !ok || len(got) != 1 || got[0] != full {
		t.Error("one long element", len(got), ok)
	}
	commas := strings.Repeat(",", impl.MaxString)
	got, ok := impl.SplitString(commas, ",")
	if !ok || len(got) != impl.MaxString+1 || strings.Join(got, "") != "" {
		t.Error("only separators", len(got), ok)
	}
	for _, s := range []string{full + "a", commas + ",", full + full} {
		if got, ok := impl.SplitString(s, ","); ok || len(got) != 0 {
			t.Error("too long", len(s), len(got), ok)
		}
	}
}

func TestSplitStringSharesNoMemory(t *testing.T) {
	s := string([]byte("alpha,beta,gamma"))
	got, _ := impl.SplitString(s, ",")
	for i, part := range got {
		if shareBytes(part, s) || i > 0 && shareBytes(part, got[i-1]) {
			t.Error("shared", part)
		}
	}
	whole, _ := impl.SplitString(s, ";")
	if shareBytes(whole[0], s) {
		t.Error("shared without a separator")
	}
	got[0] = "changed"
	if again, ok := impl.SplitString(s, ","); !ok || again[0] != "alpha" {
		t.Error("a result is kept", again)
	}
}

func TestJoinStrings(t *testing.T) {
	for _, c := range []struct {
		parts []string
		sep   string
		want  string
	}{
		{[]string{"a", "", "b"}, ";", "a;;b"},
		{[]string{""}, ";", ""},
		{[]string{"", ""}, ";", ";"},
		{[]string{"a"}, ";", "a"},
		{[]string{"a,b", "c"}, ";", "a,b;c"},
		{[]string{"", "a", ""}, "\x00", "\x00a\x00"},
		{[]string{"\xc3", ""}, "\xa9", "\u00e9"},
		{[]string{"a", "b", "c"}, "\xff", "a\xffb\xffc"},
	} {
		if got, ok := impl.JoinStrings(c.parts, c.sep); !ok || got != c.want {
			t.Errorf("JoinStrings(%q, %q) = %q, %v", c.parts, c.sep, got, ok)
		}
	}
}

func TestJoinStringsRejects(t *testing.T) {
	for _, c := range []struct {
		parts []string
		sep   string
	}{
		{nil, ";"}, {[]string{}, ";"}, {nil, ""}, {[]string{}, ";;"},
		{[]string{"a", "b"}, ""}, {[]string{"a"}, ""}, {[]string{""}, ""},
		{[]string{"a", "b"}, ";;"}, {[]string{"a"}, "; "}, {[]string{"a", "b"}, "\u00e9"},
		{[]string{"a;b"}, ";"}, {[]string{";"}, ";"}, {[]string{";a", "b"}, ";"}, {[]string{"a", "b;"}, ";"},
		{[]string{"a", "b;c", "d"}, ";"}, {[]string{"a", "b", "", ";"}, ";"},
		{[]string{"\u00e9"}, "\xa9"}, {[]string{"a\x00"}, "\x00"},
	} {
		if got, ok := impl.JoinStrings(c.parts, c.sep); ok || got != "" {
			t.Errorf("JoinStrings(%q, %q) = %q, %v", c.parts, c.sep, got, ok)
		}
	}
}

func TestJoinStringsFindsTheSeparatorEverywhere(t *testing.T) {
	for i := range 3 {
		for j := range 5 {
			parts := []string{"abcde", "fghij", "klmno"}
			parts[i] = parts[i][:j] + "|" + parts[i][j+1:]
			if got, ok := impl.JoinStrings(parts, "|"); ok || got != "" {
				t.Errorf("JoinStrings(%q) = %q, %v", parts, got, ok)
			}
		}
	}
}

func TestJoinStringsAtItsLimit(t *testing.T) {
	full := strings.Repeat("a", impl.MaxString)
	half := strings.Repeat("b", impl.MaxString/2)
	for _, parts := range [][]string{
		{full},
		{half, half[1:]},
		{"", full[1:]},
		{full[2:], "", ""},
		make([]string, impl.MaxString+1),
	} {
		if got, ok := impl.JoinStrings(parts, ","); !ok || got != strings.Join(parts, ",") || len(got) != impl.MaxString {
			t.Error("at the limit", len(parts), len(got), ok)
		}
	}
	for _, parts := range [][]string{
		{full + "a"},
		{half, half},
		{"", full},
		{full, ""},
		{full[2:], "", "", ""},
		{full, full, full},
		make([]string, impl.MaxString+2),
		make([]string, 100000),
		{strings.Repeat("a", 1000000)},
	} {
		if got, ok := impl.JoinStrings(parts, ","); ok || got != "" {
			t.Error("beyond the limit", len(parts), len(got), ok)
		}
	}
}

func TestJoinStringsLeavesItsArgument(t *testing.T) {
	room := []string{"a", "b", "c", "beyond;"}
	parts := room[:2]
	if got, ok := impl.JoinStrings(parts, ";"); !ok || got != "a;b" {
		t.Errorf("%q, %v", got, ok)
	}
	if !slices.Equal(room, []string{"a", "b", "c", "beyond;"}) {
		t.Errorf("modified: %q", room)
	}
	single := string([]byte("one element"))
	if got, ok := impl.JoinStrings([]string{single}, ";"); !ok || got != single || shareBytes(got, single) {
		t.Errorf("one element: %q, %v", got, ok)
	}
}

func TestSplittingAndJoiningRoundTrip(t *testing.T) {
	for _, s := range append(stringsOver("a,;\xff", 5), allBytes(), strings.Repeat("ab,", 1300)) {
		for _, sep := range []string{",", ";", "a", "\xff", "x"} {
			parts, ok := impl.SplitString(s, sep)
			if !ok || len(parts) != strings.Count(s, sep)+1 {
				t.Fatalf("SplitString(%q, %q) = %q, %v", s, sep, parts, ok)
			}
			if joined, ok := impl.JoinStrings(parts, sep); !ok || joined != s {
				t.Fatalf("JoinStrings(%q, %q) = %q, %v", parts, sep, joined, ok)
			}
		}
	}
}

func TestJoiningAndSplittingRoundTrip(t *testing.T) {
	words := stringsOver("a;", 2)
	for _, a := range words {
		for _, b := range words {
			parts := []string{a, b}
			joined, ok := impl.JoinStrings(parts, ";")
			if ok == strings.Contains(a+b, ";") {
				t.Fatalf("JoinStrings(%q) = %q, %v", parts, joined, ok)
			}
			if got, fine := impl.SplitString(joined, ";"); ok && (!fine || !slices.Equal(got, parts)) {
				t.Fatalf("SplitString(%q) = %q, %v", joined, got, fine)
			}
		}
	}
}

func TestLessString(t *testing.T) {
	long := strings.Repeat("a", impl.MaxString)
	ascending := []string{
		"", "\x00", "\x00\x00", " ", "-1", "10", "9", "A", "Z", "a", "a\x00", "aa", "ab",
		long + "b", "b", "ba", "z", "\x7f", "\x80", "\u00e9", "\xff", "\xff\x00", "\xff\xff",
	}
	slices.SortFunc(ascending, compareByBytes)
	for i, a := range ascending {
		for j, b := range ascending {
			if impl.LessString(a, b) != (i < j) {
				t.Errorf("LessString(%.10q, %.10q) at %d, %d", a, b, i, j)
			}
		}
	}
	if !impl.LessString("a", "ab") || impl.LessString("ab", "a") || impl.LessString("ab", "ab") {
		t.Error("prefixes")
	}
	if !impl.LessString(long, long+"a") || impl.LessString(long+"a", long) || !impl.LessString(long+"a", long+"b") {
		t.Error("strings of more than MaxString bytes")
	}
}

// compareByBytes states the order of the document without the language's own order of strings.
func compareByBytes(a string, b string) int {
	for i := range min(len(a), len(b)) {
		if a[i] != b[i] {
			return int(a[i]) - int(b[i])
		}
	}
	return len(a) - len(b)
}

func TestChecksum(t *testing.T) {
	for s, want := range map[string]int{
		"": 7, "a": 385, "ab": 15884, "\x00": 288, "\xff": 543, "\u00e9": 19973, "storm warning 7": 374474,
		"#": 323, "beutb": 0, "beuta": 999978,
		strings.Repeat("\xff", impl.MaxString): 55992,
		strings.Repeat("a", impl.MaxString):    237246,
	} {
		if n, ok := impl.Checksum(s); !ok || n != want {
			t.Errorf("Checksum(%.20q) = %d, %v", s, n, ok)
		}
	}
	for _, size := range []int{impl.MaxString + 1, impl.MaxString + 2, 100000} {
		if n, ok := impl.Checksum(strings.Repeat("a", size)); ok || n != 0 {
			t.Errorf("Checksum of %d bytes = %d, %v", size, n, ok)
		}
	}
}

func TestChecksumUpdatesByEveryByte(t *testing.T) {
	for _, start := range []string{"", "a", "beutb", "beuta", strings.Repeat("wind ", 700)} {
		before, _ := impl.Checksum(start)
		for c := range 256 {
			want := (41*before + c + 1) % 999979
			if n, ok := impl.Checksum(start + string([]byte{byte(c)})); !ok || n != want {
				t.Fatalf("Checksum(%.10q and byte %d) = %d, %v", start, c, n, ok)
			}
		}
	}
}

func TestAppendChecksum(t *testing.T) {
	for s, want := range map[string]string{
		"": "#7", "a": "a#385", "ab": "ab#15884", "\xff": "\xff#543", "beutb": "beutb#0", "beuta": "beuta#999978",
		"storm warning 7": "storm warning 7#374474",
	} {
		got, ok := impl.AppendChecksum(s)
		if !ok || got != want {
			t.Errorf("AppendChecksum(%q) = %q, %v", s, got, ok)
		}
		if back, ok := impl.VerifyChecksum(want); !ok || back != s {
			t.Errorf("VerifyChecksum(%q) = %q, %v", want, back, ok)
		}
	}
	for _, s := range []string{"#", "##", "#a", "a#", "a#b", "a#385", "#7", strings.Repeat("a", 3000) + "#"} {
		if got, ok := impl.AppendChecksum(s); ok || got != "" {
			t.Errorf("AppendChecksum(%.20q) = %.20q, %v", s, got, ok)
		}
	}
}

func TestAppendChecksumAtItsLimit(t *testing.T) {
	for _, s := range []string{
		strings.Repeat("a", 3993),          // checksum 815629
		strings.Repeat("a", 3990) + "ikfq", // checksum 10000
		strings.Repeat("b", 3995),          // checksum 2362
		strings.Repeat("a", 3992) + "ysas", // checksum 100
		strings.Repeat("a", 3994) + "tmia", // checksum 5
	} {
		sealed, ok := impl.AppendChecksum(s)
		if !ok || len(sealed) != impl.MaxString || !strings.HasPrefix(sealed, s+"#") {
			t.Error("at the limit", len(s), len(sealed), ok)
		}
		if back, ok := impl.VerifyChecksum(sealed); !ok || back != s {
			t.Error("back from the limit", len(s), len(back), ok)
		}
	}
	for s, sum := range map[string]string{
		strings.Repeat("a", 3994):   "441580",
		strings.Repeat("b", 3996):   "96941",
		strings.Repeat("a", 4000):   "237246",
		strings.Repeat("a", 4001):   "727373",
		strings.Repeat("a", 100000): "0",
	} {
		if got, ok := impl.AppendChecksum(s); ok || got != "" {
			t.Error("beyond the limit", len(s), len(got), ok)
		}
		if back, ok := impl.VerifyChecksum(s + "#" + sum); ok || back != "" {
			t.Error("verified beyond the limit", len(s), len(back), ok)
		}
	}
}

func TestVerifyChecksumRejects(t *testing.T) {
	for _, s := range []string{
		"", "a", "#", "a#", "#0", "#07", "#8", "7", "385", "a385", "#385", "a#384", "a#386", "a#38", "a#3850",
		"a#0385", "a#+385", "a#-385", "a# 385", "a#385 ", "a#385\n", " a#385", "A#385", "b#385", "aa#385",
		"a##385", "a#385#", "a#385#1", "a#385#385", "##323", "a#385#31", "a#1000364", "a#x", "beutb#", "beutb#-0", "beutb#00",
		strings.Repeat("#", impl.MaxString), strings.Repeat("a", impl.MaxString), strings.Repeat("a", 100000) + "#0",
	} {
		if got, ok := impl.VerifyChecksum(s); ok || got != "" {
			t.Errorf("VerifyChecksum(%.20q) = %.20q, %v", s, got, ok)
		}
	}
	if got, ok := impl.VerifyChecksum("#7"); !ok || got != "" {
		t.Errorf("the empty string: %q, %v", got, ok)
	}
}

func TestVerifyChecksumSharesNoMemory(t *testing.T) {
	sealed, ok := impl.AppendChecksum(string([]byte("a text with a checksum")))
	if !ok {
		t.Fatal("no checksum")
	}
	if got, ok := impl.VerifyChecksum(sealed); !ok || shareBytes(got, sealed) {
		t.Error("shared", got, ok)
	}
}

// expectDetected fails if a sealed string is still accepted with another byte at a position.
func expectDetected(t *testing.T, sealed string, at int, by byte) {
	if sealed[at] == by {
		return
	}
	changed := []byte(sealed)
	changed[at] = by
	if got, ok := impl.VerifyChecksum(string(changed)); ok || got != "" {
		t.Fatalf("byte %d of %.30q changed to %d: %.30q, %v", at, sealed, by, got, ok)
	}
}

func TestEverySingleChangedByteIsDetected(t *testing.T) {
	withoutMark := strings.ReplaceAll(allBytes(), "#", "")
	for _, s := range []string{
		"", "a", "0", "385", "beutb", "beuta", "\x00", "\xff\xff\xff", "storm warning 7", "gale A 12-18", withoutMark,
	} {
		sealed, ok := impl.AppendChecksum(s)
		if !ok {
			t.Fatalf("AppendChecksum(%q) fails", s)
		}
		for at := range len(sealed) {
			for by := range 256 {
				expectDetected(t, sealed, at, byte(by))
			}
		}
	}
}

func TestChangedBytesOfTheLongestStringsAreDetected(t *testing.T) {
	for _, s := range []string{strings.Repeat("a", 3993), strings.Repeat("a", 3994) + "tmia"} {
		sealed, ok := impl.AppendChecksum(s)
		if !ok || len(sealed) != impl.MaxString {
			t.Fatal("not the longest", len(sealed), ok)
		}
		for at := range len(sealed) {
			for _, by := range []byte{sealed[at] ^ 1, sealed[at] + 128, '#', '0', 0, 255} {
				expectDetected(t, sealed, at, by)
			}
		}
	}
}
