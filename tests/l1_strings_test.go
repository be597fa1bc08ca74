package tests

import (
	"bytes"
	"math"
	"slices"
	"strconv"
	"strings"
	"testing"

	"loop.example/g01111/impl"
)

// textsOf gives all texts of at most most bytes, each of them one of signs.
func textsOf(signs string, most int) []string {
	texts := []string{""}
	last := texts
	for range most {
		var next []string
		for _, s := range last {
			for i := range len(signs) {
				next = append(next, s+signs[i:i+1])
			}
		}
		texts = append(texts, next...)
		last = next
	}
	return texts
}

// cycleOf gives a text of n bytes that go through all byte values but `#`.
func cycleOf(n int) string {
	b := make([]byte, n)
	for i := range b {
		b[i] = byte(i % 256)
		if b[i] == '#' {
			b[i] = '$'
		}
	}
	return string(b)
}

// keepIf is s, or the empty string that stands beside false.
func keepIf(ok bool, s string) string {
	if ok {
		return s
	}
	return ""
}

func checkFormat(t *testing.T, n int, want string, wantOK bool) {
	t.Helper()
	if s, ok := impl.FormatInt(n); s != want || ok != wantOK {
		t.Errorf("FormatInt(%d) = %q, %t, want %q, %t", n, s, ok, want, wantOK)
	}
}

func checkParse(t *testing.T, s string, want int, wantOK bool) {
	t.Helper()
	if n, ok := impl.ParseInt(s); n != want || ok != wantOK {
		t.Errorf("ParseInt(%q) = %d, %t, want %d, %t", s, n, ok, want, wantOK)
	}
}

func checkSplit(t *testing.T, s, sep string, want []string, wantOK bool) {
	t.Helper()
	if parts, ok := impl.SplitString(s, sep); !slices.Equal(parts, want) || ok != wantOK {
		t.Errorf("SplitString(%.60q, %q) = %d parts %.200q, %t, want %d, %t", s, sep, len(parts), parts, ok, len(want), wantOK)
	}
}

func checkJoin(t *testing.T, parts []string, sep, want string, wantOK bool) {
	t.Helper()
	if s, ok := impl.JoinStrings(parts, sep); s != want || ok != wantOK {
		t.Errorf("JoinStrings(%d parts %.200q, %q) = %.60q, %t, want %.60q, %t", len(parts), parts, sep, s, ok, want, wantOK)
	}
}

func checkSum(t *testing.T, s string, want int, wantOK bool) {
	t.Helper()
	if n, ok := impl.Checksum(s); n != want || ok != wantOK {
		t.Errorf("Checksum(%.60q) = %d, %t, want %d, %t", s, n, ok, want, wantOK)
	}
}

func checkAppend(t *testing.T, s, want string, wantOK bool) {
	t.Helper()
	if x, ok := impl.AppendChecksum(s); x != want || ok != wantOK {
		t.Errorf("AppendChecksum(%.60q) = %.60q, %t, want %.60q, %t", s, x, ok, want, wantOK)
	}
}

func checkVerify(t *testing.T, s, want string, wantOK bool) {
	t.Helper()
	if x, ok := impl.VerifyChecksum(s); x != want || ok != wantOK {
		t.Errorf("VerifyChecksum(%.60q) = %.60q, %t, want %.60q, %t", s, x, ok, want, wantOK)
	}
}

// sumBySteps computes the checksum from the document's words, apart from the program.
func sumBySteps(s string) int {
	h := 7
	for _, c := range []byte(s) {
		h = (41*h + int(c) + 1) % 999979
	}
	return h
}

func TestBounds(t *testing.T) {
	if impl.MaxString != 4000 || impl.MaxDecimal != 999999 {
		t.Error("bounds", impl.MaxString, impl.MaxDecimal)
	}
}

func TestP1FormatIntExamples(t *testing.T) {
	checkFormat(t, -12, "-12", true)
	checkFormat(t, 0, "0", true)
	checkFormat(t, 7, "7", true)
	checkFormat(t, -1, "-1", true)
	checkFormat(t, 100, "100", true)
	checkFormat(t, 999999, "999999", true)
	checkFormat(t, -999999, "-999999", true)
}

func TestP1FormatIntOutsideBounds(t *testing.T) {
	for _, n := range []int{1000000, -1000000, 1000001, math.MaxInt32, math.MinInt32, 1 << 32, math.MaxInt, math.MinInt} {
		checkFormat(t, n, "", false)
	}
}

func TestP1FormatAndParseAllNumbers(t *testing.T) {
	for n := -impl.MaxDecimal; n <= impl.MaxDecimal; n++ {
		want := strconv.FormatInt(int64(n), 10)
		if s, ok := impl.FormatInt(n); !ok || s != want {
			t.Fatalf("FormatInt(%d) = %q, %t", n, s, ok)
		}
		if m, ok := impl.ParseInt(want); !ok || m != n {
			t.Fatalf("ParseInt(%q) = %d, %t", want, m, ok)
		}
	}
}

func TestP1ParseIntRefuses(t *testing.T) {
	for _, s := range []string{
		"", "-", "+", "--", "+1", "+0", "-0", "-00", "00", "01", "-01", "000001", "--1", "-+1", "1-", "-1-",
		" ", " 1", "1 ", "1 2", "1\n", "\t1", "\x001", "1\x00", "x", "1x", "x1", "0x1", "0b1", "0o1", "1_0", "1e3", "1.0", "1,000",
		"1000000", "-1000000", "0999999", "9999999", "9223372036854775807", "-9223372036854775808", "9223372036854775808",
		"18446744073709551617", "-18446744073709551615", "4294967297", "\uff11", "\u0661", "\u22121", "\xff",
		strings.Repeat("0", 5000), strings.Repeat("9", 5000), "-" + strings.Repeat("1", 5000),
	} {
		checkParse(t, s, 0, false)
	}
}

func TestP1ParseIntAllShortTexts(t *testing.T) {
	written := map[string]int{}
	for n := -9999; n <= 9999; n++ {
		written[strconv.Itoa(n)] = n
	}
	for _, s := range textsOf("+-019 x_", 4) {
		n, ok := written[s]
		checkParse(t, s, n, ok)
	}
}

func TestP1SplitStringExamples(t *testing.T) {
	checkSplit(t, "a,,b", ",", []string{"a", "", "b"}, true)
	checkSplit(t, "", ",", []string{""}, true)
	checkSplit(t, ",", ",", []string{"", ""}, true)
	checkSplit(t, ",,", ",", []string{"", "", ""}, true)
	checkSplit(t, ",a", ",", []string{"", "a"}, true)
	checkSplit(t, "a,", ",", []string{"a", ""}, true)
	checkSplit(t, ",a,,b,", ",", []string{"", "a", "", "b", ""}, true)
	checkSplit(t, "abc", ",", []string{"abc"}, true)
	checkSplit(t, "a b", " ", []string{"a", "b"}, true)
	checkSplit(t, "a\nb\n", "\n", []string{"a", "b", ""}, true)
	checkSplit(t, "a.b*c", ".", []string{"a", "b*c"}, true)
}

func TestP1SplitStringSplitsBytes(t *testing.T) {
	checkSplit(t, "\u00e9", "\xa9", []string{"\xc3", ""}, true)
	checkSplit(t, "\xff\xfe\xff", "\xff", []string{"", "\xfe", ""}, true)
	checkSplit(t, "\xff\ufffd", "\xff", []string{"", "\ufffd"}, true)
	checkSplit(t, "a\x00b", "\x00", []string{"a", "b"}, true)
	for c := range 256 {
		sep := string([]byte{byte(c)})
		other := string([]byte{byte(c + 1)})
		checkSplit(t, sep+other+sep+sep+other, sep, []string{"", other, "", other}, true)
	}
}

func TestP1SplitStringInvalid(t *testing.T) {
	for _, sep := range []string{"", ",,", ", ", "ab", "\u00e9", strings.Repeat(",", 5000)} {
		for _, s := range []string{"", "a", "a,,b", ",,", "ab"} {
			checkSplit(t, s, sep, nil, false)
		}
	}
}

func TestP1SplitStringLengths(t *testing.T) {
	long := strings.Repeat("a", 4000)
	checkSplit(t, long, ",", []string{long}, true)
	checkSplit(t, long+"a", ",", nil, false)
	checkSplit(t, strings.Repeat(",", 4000), ",", make([]string, 4001), true)
	checkSplit(t, strings.Repeat(",", 4001), ",", nil, false)
	checkSplit(t, long[:3998]+",b", ",", []string{long[:3998], "b"}, true)
	checkSplit(t, long[:3999]+",b", ",", nil, false)
	checkSplit(t, strings.Repeat("\u00e9", 2000), ",", []string{strings.Repeat("\u00e9", 2000)}, true)
	checkSplit(t, strings.Repeat("\u00e9", 2000)+"a", ",", nil, false)
	checkSplit(t, strings.Repeat("a,", 1<<20), ",", nil, false)
}

func TestP1JoinStringsExamples(t *testing.T) {
	checkJoin(t, []string{"a", "", "b"}, ";", "a;;b", true)
	checkJoin(t, []string{""}, ";", "", true)
	checkJoin(t, []string{"a"}, ";", "a", true)
	checkJoin(t, []string{"", ""}, ";", ";", true)
	checkJoin(t, []string{"", "a", ""}, ";", ";a;", true)
	checkJoin(t, []string{"a", "b"}, "\n", "a\nb", true)
	checkJoin(t, []string{"\xfe", "\xfd"}, "\xff", "\xfe\xff\xfd", true)
	checkJoin(t, []string{"\xff"}, "\xfe", "\xff", true)
}

func TestP1JoinStringsInvalid(t *testing.T) {
	checkJoin(t, nil, ";", "", false)
	checkJoin(t, []string{}, ";", "", false)
	for _, sep := range []string{"", ";;", "; ", "\u00e9"} {
		checkJoin(t, []string{"a", "b"}, sep, "", false)
		checkJoin(t, []string{"a"}, sep, "", false)
		checkJoin(t, []string{""}, sep, "", false)
		checkJoin(t, nil, sep, "", false)
	}
}

func TestP1JoinStringsSeparatorInside(t *testing.T) {
	for _, bad := range []string{";", ";a", "a;", "a;b", ";;", strings.Repeat("a", 3000) + ";"} {
		checkJoin(t, []string{bad}, ";", "", false)
		checkJoin(t, []string{bad, "c"}, ";", "", false)
		checkJoin(t, []string{"c", bad}, ";", "", false)
		checkJoin(t, []string{"", "c", bad, ""}, ";", "", false)
		checkJoin(t, []string{bad}, ",", bad, true)
	}
	checkJoin(t, []string{"\u00e9", "a"}, "\xa9", "", false)
	checkJoin(t, []string{"\u00e9", "a"}, "\xc3", "", false)
	checkJoin(t, []string{"a", "\xff"}, "\xff", "", false)
}

func TestP1JoinStringsLengths(t *testing.T) {
	long := strings.Repeat("a", 4000)
	checkJoin(t, []string{long}, ";", long, true)
	checkJoin(t, []string{long + "a"}, ";", "", false)
	checkJoin(t, []string{long, ""}, ";", "", false)
	checkJoin(t, []string{"", long}, ";", "", false)
	checkJoin(t, []string{long[:3999], ""}, ";", long[:3999]+";", true)
	checkJoin(t, []string{"", long[:3999]}, ";", ";"+long[:3999], true)
	checkJoin(t, []string{long[:2000], long[:1999]}, ";", long[:2000]+";"+long[:1999], true)
	checkJoin(t, []string{long[:2000], long[:2000]}, ";", "", false)
	checkJoin(t, make([]string, 4001), ";", strings.Repeat(";", 4000), true)
	checkJoin(t, make([]string, 4002), ";", "", false)
	checkJoin(t, make([]string, 1<<20), ";", "", false)
}

func TestP1SplitJoinRoundTrip(t *testing.T) {
	for _, sep := range []string{",", "a", "\xa9", "\x00"} {
		for _, s := range append(textsOf(",a\xa9", 6), cycleOf(4000), strings.Repeat(sep, 4000), strings.Repeat("b"+sep, 2000)) {
			parts, ok := impl.SplitString(s, sep)
			if !ok || len(parts) != strings.Count(s, sep)+1 {
				t.Fatalf("SplitString(%.60q, %q) = %d parts, %t", s, sep, len(parts), ok)
			}
			for _, part := range parts {
				if strings.Contains(part, sep) {
					t.Fatalf("SplitString(%.60q, %q): part %.60q", s, sep, part)
				}
			}
			checkJoin(t, parts, sep, s, true)
		}
	}
}

func TestP1JoinSplitRoundTrip(t *testing.T) {
	elements := append(textsOf("a\xa9", 2), "a;b")
	for _, a := range elements {
		for _, b := range elements {
			for _, c := range elements {
				for _, parts := range [][]string{{a}, {a, b}, {a, b, c}} {
					s, ok := impl.JoinStrings(parts, ";")
					if ok != !slices.Contains(parts, "a;b") {
						t.Fatalf("JoinStrings(%q) = %q, %t", parts, s, ok)
					}
					if ok {
						checkSplit(t, s, ";", parts, true)
					}
				}
			}
		}
	}
}

func TestP1LessString(t *testing.T) {
	for _, x := range []struct {
		a, b string
		want bool
	}{
		{"a", "ab", true}, {"ab", "a", false}, {"a", "a", false}, {"b", "ab", false}, {"ab", "b", true},
		{"", "", false}, {"", "a", true}, {"a", "", false}, {"", "\x00", true}, {"a", "a\x00", true},
		{"A", "a", true}, {"10", "9", true}, {"9", "10", false}, {"a", "\xff", true}, {"\xff", "a", false},
		{"z", "\u00e9", true}, {"\x7f", "\x80", true}, {"\uffff", "\U00010000", true}, {"\ufffd", "\xff", true}, {"\xed\xa0\x80", "\xee", true},
	} {
		if got := impl.LessString(x.a, x.b); got != x.want {
			t.Errorf("LessString(%q, %q) = %t", x.a, x.b, got)
		}
	}
}

func TestP1LessStringAllShortTexts(t *testing.T) {
	texts := textsOf("\x00a\x80\xff", 3)
	for _, a := range texts {
		for _, b := range texts {
			if got := impl.LessString(a, b); got != (bytes.Compare([]byte(a), []byte(b)) < 0) {
				t.Fatalf("LessString(%q, %q) = %t", a, b, got)
			}
		}
	}
}

func TestP1LessStringHasNoLimit(t *testing.T) {
	long := strings.Repeat("a", 5000)
	if !impl.LessString(long, long+"a") || impl.LessString(long+"a", long) || impl.LessString(long, long) {
		t.Error("long texts, one a prefix of the other")
	}
	if !impl.LessString(long+"a", long+"b") || impl.LessString(long+"b", long+"a") {
		t.Error("long texts with different ends")
	}
}

func TestP1ChecksumExamples(t *testing.T) {
	checkSum(t, "a", 385, true)
	checkSum(t, "", 7, true)
	checkSum(t, "ab", 15884, true)
	checkSum(t, "ba", 15924, true)
	checkSum(t, "aa", 15883, true)
	checkSum(t, "\x00", 288, true)
	checkSum(t, "\xff", 543, true)
	checkSum(t, "\u00e9", 19973, true)
	checkSum(t, "#", 323, true)
	checkSum(t, "The quick brown fox jumps over the lazy dog", 426820, true)
}

func TestP1ChecksumLengths(t *testing.T) {
	checkSum(t, strings.Repeat("a", 4000), 237246, true)
	checkSum(t, strings.Repeat("\xff", 4000), 55992, true)
	checkSum(t, strings.Repeat("a", 4001), 0, false)
	checkSum(t, strings.Repeat("\u00e9", 2001), 0, false)
	checkSum(t, strings.Repeat("a", 1<<20), 0, false)
	for n := range 4001 {
		checkSum(t, cycleOf(n), sumBySteps(cycleOf(n)), true)
	}
}

func TestP1AppendChecksumExamples(t *testing.T) {
	checkAppend(t, "a", "a#385", true)
	checkAppend(t, "", "#7", true)
	checkAppend(t, "ab", "ab#15884", true)
	checkAppend(t, "\xff", "\xff#543", true)
	checkAppend(t, "0 step@3", "0 step@3#416158", true)
	checkAppend(t, "a\nb", "a\nb#"+strconv.Itoa(sumBySteps("a\nb")), true)
}

func TestP1AppendChecksumInvalid(t *testing.T) {
	for _, s := range []string{"#", "#a", "a#", "a#b", "##", "a#385", strings.Repeat("a", 3000) + "#"} {
		checkAppend(t, s, "", false)
	}
}

func TestP1AppendChecksumLengths(t *testing.T) {
	longest := strings.Repeat("a", 3993)
	checkAppend(t, longest, longest+"#815629", true)
	checkAppend(t, longest+"a", "", false)
	checkAppend(t, strings.Repeat("a", 4000), "", false)
	checkAppend(t, strings.Repeat("a", 4001), "", false)
	checkAppend(t, strings.Repeat("a", 1<<20), "", false)
	checkVerify(t, longest+"#815629", longest, true)
	checkVerify(t, longest+"a#441580", "", false)
}

// The digits count, too: the fewer of them there are, the longer the text may be.
func TestP1AppendChecksumLengthsWithFewDigits(t *testing.T) {
	for _, x := range []struct {
		size   int
		end    string
		digits string
		fits   bool
	}{
		{3994, "ikfq", "10000", true}, {3995, "aAaa", "51464", false},
		{3996, "l5ga", "112", true}, {3997, "bZaa", "323", false},
		{3998, "fXng", "0", true}, {3999, "iUWe", "0", false},
	} {
		s := strings.Repeat("a", x.size-len(x.end)) + x.end
		sealed := s + "#" + x.digits
		if strconv.Itoa(sumBySteps(s)) != x.digits {
			t.Error("the text has another checksum", x.end)
		}
		checkAppend(t, s, keepIf(x.fits, sealed), x.fits)
		checkVerify(t, sealed, keepIf(x.fits, s), x.fits)
	}
}

func TestP1VerifyChecksumExamples(t *testing.T) {
	checkVerify(t, "a#385", "a", true)
	checkVerify(t, "#7", "", true)
	checkVerify(t, "ab#15884", "ab", true)
	checkVerify(t, "\xff#543", "\xff", true)
}

func TestP1VerifyChecksumRefuses(t *testing.T) {
	for _, s := range []string{
		"", "a", "7", "#", "##", "a#", "#a", "a#384", "a#386", "a#0385", "a#+385", "a# 385", "a#385 ", "a#385\n", "a#-385", "a#38", "a#3850",
		"b#385", "a385", "a#385#", "#a#385", "a#385#1", "a##385", "#07", "#-7", "#7#", "##7", "#1000000", "a#1000364", "a#999979385",
	} {
		checkVerify(t, s, "", false)
	}
	for _, s := range []string{"#", "a#", "a#385", "a#385#", "##"} {
		checkVerify(t, s+"#"+strconv.Itoa(sumBySteps(s)), "", false)
	}
	for _, n := range []int{3999, 4000, 4001, 5000} {
		s := strings.Repeat("a", n)
		checkVerify(t, s, "", false)
		checkVerify(t, s+"#"+strconv.Itoa(sumBySteps(s)), "", false)
	}
}

func TestP1VerifyChecksumReturnsEachText(t *testing.T) {
	texts := textsOf("a 1\x00\xff", 5)
	for n := range 400 {
		texts = append(texts, cycleOf(n))
	}
	for _, s := range texts {
		sealed, ok := impl.AppendChecksum(s)
		if !ok || sealed != s+"#"+strconv.Itoa(sumBySteps(s)) {
			t.Fatalf("AppendChecksum(%.60q) = %.60q, %t", s, sealed, ok)
		}
		checkVerify(t, sealed, s, true)
	}
}

func TestP1EachChangedByteIsDetected(t *testing.T) {
	for _, s := range []string{"", "a", "ab", "0", "385", "a b@c", "\x00\x00", "\xff\xff\xff", cycleOf(300)} {
		sealed, ok := impl.AppendChecksum(s)
		if !ok {
			t.Fatalf("AppendChecksum(%.60q)", s)
		}
		for i := range len(sealed) {
			for c := range 256 {
				changed := []byte(sealed)
				changed[i] = byte(c)
				same := string(changed) == sealed
				checkVerify(t, string(changed), keepIf(same, s), same)
			}
		}
	}
}

func TestP1EachChangedByteOfALongTextIsDetected(t *testing.T) {
	s := cycleOf(3993)
	sealed, ok := impl.AppendChecksum(s)
	if !ok || len(sealed) != 4000 {
		t.Fatal("no text of MaxString bytes", len(sealed), ok)
	}
	for i := range len(sealed) {
		for _, c := range []byte{'#', '0', sealed[i] + 1, sealed[i] ^ 0x80} {
			changed := []byte(sealed)
			changed[i] = c
			same := string(changed) == sealed
			checkVerify(t, string(changed), keepIf(same, s), same)
		}
	}
}

func TestP13JoinStringsLeavesTheSlice(t *testing.T) {
	for _, sep := range []string{";", ",", "", ";;"} {
		for _, given := range [][]string{{"b", "", "a"}, {"a;b", "c"}, {""}, {"x", "y"}, make([]string, 5000)} {
			room := append(slices.Clone(given), "behind", "it")
			before := slices.Clone(room)
			impl.JoinStrings(room[:len(given)], sep)
			if !slices.Equal(room, before) {
				t.Errorf("JoinStrings(.., %q) changed %.60q to %.60q", sep, before, room)
			}
		}
	}
}

func TestP13SplitStringResultsAreNew(t *testing.T) {
	first, _ := impl.SplitString("a,b,c", ",")
	second, _ := impl.SplitString("a,b,c", ",")
	for i := range first {
		first[i] = "changed"
	}
	first = append(first, "more")
	if len(first) != 4 || !slices.Equal(second, []string{"a", "b", "c"}) {
		t.Error("the results share memory", second)
	}
	checkSplit(t, "a,b,c", ",", []string{"a", "b", "c"}, true)
}

func TestP13EachFunctionReturnsForAllArguments(t *testing.T) {
	texts := append(textsOf("#0-\xff", 3), cycleOf(256), cycleOf(4000), cycleOf(4001), strings.Repeat("9", 1<<20), strings.Repeat("#", 1<<20))
	for _, s := range texts {
		for range 2 {
			n, ok := impl.ParseInt(s)
			if !ok && n != 0 {
				t.Errorf("ParseInt(%.60q) = %d beside false", s, n)
			}
			if n, ok := impl.Checksum(s); !ok && n != 0 {
				t.Errorf("Checksum(%.60q) = %d beside false", s, n)
			}
			if x, ok := impl.AppendChecksum(s); !ok && x != "" {
				t.Errorf("AppendChecksum(%.60q) = %.60q beside false", s, x)
			}
			if x, ok := impl.VerifyChecksum(s); !ok && x != "" {
				t.Errorf("VerifyChecksum(%.60q) = %.60q beside false", s, x)
			}
		}
		for _, sep := range texts {
			if parts, ok := impl.SplitString(s, sep); ok != (len(s) <= 4000 && len(sep) == 1) || !ok && len(parts) != 0 {
				t.Errorf("SplitString(%.60q, %.60q) = %d parts, %t", s, sep, len(parts), ok)
			}
			if x, ok := impl.JoinStrings([]string{s, s}, sep); !ok && x != "" {
				t.Errorf("JoinStrings(%.60q, %.60q) = %.60q beside false", s, sep, x)
			}
			if impl.LessString(s, sep) && impl.LessString(sep, s) {
				t.Errorf("LessString(%.60q, %.60q) both ways", s, sep)
			}
		}
	}
}
