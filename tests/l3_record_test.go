package tests

import (
	"math"
	"math/rand"
	"slices"
	"strconv"
	"strings"
	"testing"

	"loop.example/g00300/impl"
)

// goodData has data of each type with its bytes.
func goodData() map[int][][2]string {
	hosts := [][2]string{
		{"a", "\x01a\x00"}, {"ex.com", "\x02ex\x03com\x00"}, {"-_.0", "\x02-_\x010\x00"}, {label20, "\x14" + label20 + "\x00"},
		{name60, wantPlain(name60)}, {labels8, wantPlain(labels8)}, {eightBig, wantPlain(eightBig)}, {"1.2.3.4", "\x011\x012\x013\x014\x00"},
	}
	return map[int][][2]string{
		1: {
			{"0.0.0.0", "\x00\x00\x00\x00"}, {"255.255.255.255", "\xff\xff\xff\xff"}, {"1.2.3.255", "\x01\x02\x03\xff"},
			{"10.0.0.1", "\x0a\x00\x00\x01"}, {"9.99.100.200", "\x09\x63\x64\xc8"}, {"128.127.0.64", "\x80\x7f\x00\x40"},
		},
		2: hosts,
		5: hosts,
		6: {
			{"0", "\x00\x00\x00\x00"}, {"1", "\x00\x00\x00\x01"}, {"256", "\x00\x00\x01\x00"}, {"66051", "\x00\x01\x02\x03"},
			{"16909060", "\x01\x02\x03\x04"}, {"2147483648", "\x80\x00\x00\x00"}, {"4294967295", "\xff\xff\xff\xff"},
		},
		15: {
			{"0 a", "\x00\x00\x01a\x00"}, {"10 mx.ex.com", "\x00\x0a\x02mx\x02ex\x03com\x00"}, {"256 a", "\x01\x00\x01a\x00"},
			{"258 a", "\x01\x02\x01a\x00"}, {"65535 a.b", "\xff\xff\x01a\x01b\x00"}, {"1 " + name60, "\x00\x01" + wantPlain(name60)},
		},
		16: {
			{"", "\x00"}, {"a", "\x01a"}, {" ", "\x01 "}, {"  ", "\x02  "}, {"~", "\x01~"}, {" ~ ", "\x03 ~ "}, {"A.b*c 1", "\x07A.b*c 1"},
			{strings.Repeat("x", 30), "\x1e" + strings.Repeat("x", 30)}, {strings.Repeat(" ", 30), "\x1e" + strings.Repeat(" ", 30)},
		},
	}
}

func badData() map[int][]string {
	hosts := []string{"", "*", "*.com", "a.*", "a.*.com", ".", "a.", ".a", "a..b", "A", "ex.Com", "a b", " a", "a ", "a*", "a\x00", label20 + "x", name60 + "c", labels8 + ".i"}
	var exchanges []string
	for _, host := range hosts {
		exchanges = append(exchanges, "10 "+host)
	}
	return map[int][]string{
		1: {
			"", "1", "1.2", "1.2.3", "1.2.3.4.5", "1.2.3.", ".1.2.3", "1..2.3", "1.2.3.4.", ".1.2.3.4", "...", "....", "256.0.0.0", "0.256.0.0",
			"0.0.256.0", "0.0.0.256", "01.0.0.0", "0.0.0.00", "000.0.0.0", "1.2.3.04", "+1.2.3.4", "1.-2.3.4", "1.2.3.-0", "1.2.3.+0", " 1.2.3.4",
			"1.2.3.4 ", "1. 2.3.4", "1 2 3 4", "1.2.3.a", "1.2.3.0x4", "1.2.3.1_0", "1.2.3.1e1", "1.2.3.4294967296", "1.2.3.18446744073709551617",
			"1.2.3.99999999999999999999999999", "1,2,3,4", "1.2.3.4\n", "1.2.3.\u0661", "a.b.c.d", "1000.0.0.0", strings.Repeat("1.", 1<<16),
		},
		2: hosts,
		5: hosts,
		6: {
			"", "4294967296", "00", "01", "-1", "-0", "+0", "+1", " 1", "1 ", "1 1", "1.0", "0x1", "1_0", "1e3", "a", "9223372036854775807",
			"9223372036854775808", "18446744073709551616", "18446744073709551617", "42949672950", "04294967295", "\u0661", "1\x00", strings.Repeat("0", 30),
			strings.Repeat("1", 1<<16),
		},
		15: append(exchanges,
			"", " ", "10", " a", "a", "10 ", "10  a", "10 a ", " 10 a", "10 a b", "10 10 a", "65536 a", "010 a", "00 a", "-1 a", "-0 a", "+1 a",
			"1.5 a", "a a", "10\ta", "10.a", "4294967306 a", "18446744073709551626 a", "99999999999999999999999 a", "10 "+strings.Repeat("a", 1<<16),
		),
		16: {
			strings.Repeat("x", 31), strings.Repeat(" ", 31), "\x1f", "\x7f", "\x80", "\xff", "a\x1fb", "a\x7f", "\x00", "\n", "a\n", "\ta",
			"\u00e9", "\u2603", strings.Repeat("x", 1<<16),
		},
	}
}

func recordOf(kind int, data string) impl.Record {
	return impl.Record{Name: "ex.com", Type: kind, Ttl: 60, Data: data}
}

func wantBadRecord(t *testing.T, r impl.Record) {
	t.Helper()
	good := recordOf(16, "x")
	if impl.GoodRecord(r) {
		t.Errorf("GoodRecord(%s)", shown(r))
	}
	if s, ok := impl.RecordText(r); s != "" || ok {
		t.Errorf("RecordText(%s) = %.80q, %v", shown(r), s, ok)
	}
	if s, ok := impl.TargetOf(r); s != "" || ok {
		t.Errorf("TargetOf(%s) = %.80q, %v", shown(r), s, ok)
	}
	for _, pair := range [][2]impl.Record{{r, good}, {good, r}, {r, r}} {
		if n, ok := impl.CompareRecords(pair[0], pair[1]); n != 0 || ok {
			t.Errorf("CompareRecords(%s) = %d, %v", shown(pair), n, ok)
		}
	}
	for _, l := range [][]impl.Record{{r}, {good, r}, {r, good}} {
		if sets, ok := impl.SetsOf(l); len(sets) != 0 || ok {
			t.Errorf("SetsOf(%s) = %s, %v", shown(l), shown(sets), ok)
		}
	}
	wantNotSets(t, []impl.Set{{Name: r.Name, Type: r.Type, Ttl: r.Ttl, Data: []string{r.Data}}})
}

func wantNotRead(t *testing.T, s string) {
	t.Helper()
	if r, ok := impl.ReadRecord(s); r != (impl.Record{}) || ok {
		t.Errorf("ReadRecord(%.80q) = %s, %v", s, shown(r), ok)
	}
}

func wantNotData(t *testing.T, kind int, b string) {
	t.Helper()
	if data, ok := impl.ReadData(kind, b); data != "" || ok {
		t.Errorf("ReadData(%d, %.80q) = %.80q, %v", kind, b, data, ok)
	}
}

func wantNotSets(t *testing.T, l []impl.Set) {
	t.Helper()
	if records, ok := impl.RecordsOf(l); len(records) != 0 || ok {
		t.Errorf("RecordsOf of %d sets (%s) = %s, %v", len(l), shown(l), shown(records), ok)
	}
}

// Promise 3: a record comes back from its text, its data from its bytes.
func wantRecordBack(t *testing.T, r impl.Record, text string) {
	t.Helper()
	if !impl.GoodRecord(r) {
		t.Errorf("GoodRecord(%s) is false", shown(r))
	}
	if s, ok := impl.RecordText(r); s != text || !ok {
		t.Errorf("RecordText(%s) = %q, %v; want %q", shown(r), s, ok, text)
	}
	if back, ok := impl.ReadRecord(text); back != r || !ok {
		t.Errorf("ReadRecord(%q) = %s, %v", text, shown(back), ok)
	}
}

func TestRecordConstants(t *testing.T) {
	if impl.TypeA != 1 || impl.TypeNS != 2 || impl.TypeCname != 5 || impl.TypeSoa != 6 || impl.TypeMx != 15 || impl.TypeTxt != 16 {
		t.Error("the types have other numbers")
	}
	if impl.MaxTtl != 100000 || impl.MaxTxt != 30 {
		t.Error(impl.MaxTtl, impl.MaxTxt)
	}
}

func TestGoodDataOfEachType(t *testing.T) {
	texts := map[int]string{1: " 60 1 ", 2: " 60 2 ", 5: " 60 5 ", 6: " 60 6 ", 15: " 60 15 ", 16: " 60 16 "}
	for kind, pairs := range goodData() {
		for _, pair := range pairs {
			wantRecordBack(t, recordOf(kind, pair[0]), "ex.com"+texts[kind]+pair[0])
			if b, ok := impl.DataBytes(kind, pair[0]); b != pair[1] || !ok {
				t.Errorf("DataBytes(%d, %q) = %q, %v", kind, pair[0], b, ok)
			}
			if data, ok := impl.ReadData(kind, pair[1]); data != pair[0] || !ok {
				t.Errorf("ReadData(%d, %q) = %q, %v", kind, pair[1], data, ok)
			}
		}
	}
}

func TestBadDataOfEachType(t *testing.T) {
	for kind, texts := range badData() {
		for _, data := range texts {
			wantBadRecord(t, recordOf(kind, data))
			if b, ok := impl.DataBytes(kind, data); b != "" || ok {
				t.Errorf("DataBytes(%d, %.80q) = %.80q, %v", kind, data, b, ok)
			}
			wantNotRead(t, "ex.com 60 "+strconv.Itoa(kind)+" "+data)
		}
	}
}

func TestTypesThatAreNone(t *testing.T) {
	for _, kind := range []int{math.MinInt, -16, -1, 0, 3, 4, 7, 14, 17, 28, 255, 257, 1 << 32, 1<<32 + 1, math.MaxInt} {
		for _, pairs := range goodData() {
			for _, pair := range pairs {
				wantBadRecord(t, recordOf(kind, pair[0]))
				wantNotData(t, kind, pair[1])
				if b, ok := impl.DataBytes(kind, pair[0]); b != "" || ok {
					t.Errorf("DataBytes(%d, %q) = %q, %v", kind, pair[0], b, ok)
				}
			}
		}
	}
	for kind := -5; kind < 300; kind++ {
		for _, data := range []string{"1.2.3.4", "7", "7 a", ""} {
			if got, want := impl.GoodRecord(recordOf(kind, data)), wantGoodRecord(recordOf(kind, data)); got != want {
				t.Errorf("GoodRecord of type %d, data %q: %v", kind, data, got)
			}
		}
	}
}

func TestEveryByteInData(t *testing.T) {
	for c := range 256 {
		one := string([]byte{byte(c)})
		for _, kind := range sixTypes {
			for _, data := range []string{one, "1" + one, one + "1", "a" + one + "b", "1.2.3." + one, "1.2.3" + one + "4", "1 " + one, "1" + one + "a", "1 a" + one} {
				checkRecord(t, recordOf(kind, data))
			}
		}
	}
}

func TestNamesOfRecords(t *testing.T) {
	for _, s := range goodNames() {
		text := s
		if s == "" {
			text = "."
		}
		wantRecordBack(t, impl.Record{Name: s, Type: 1, Ttl: 0, Data: "1.2.3.4"}, text+" 0 1 1.2.3.4")
		wantRecordBack(t, impl.Record{Name: s, Type: 16, Ttl: 1, Data: ""}, text+" 1 16 ")
	}
	for _, s := range badNames() {
		wantBadRecord(t, impl.Record{Name: s, Type: 1, Ttl: 0, Data: "1.2.3.4"})
		if s != "." {
			wantNotRead(t, s+" 0 1 1.2.3.4")
		}
	}
	wantNotRead(t, " 0 1 1.2.3.4")
}

func TestTtlOfRecords(t *testing.T) {
	for ttl, text := range map[int]string{0: "0", 1: "1", 10: "10", 99999: "99999", 100000: "100000"} {
		wantRecordBack(t, impl.Record{Name: "a", Type: 6, Ttl: ttl, Data: "1"}, "a "+text+" 6 1")
	}
	for _, ttl := range []int{-1, -60, 100001, 1 << 32, 1<<32 + 60, math.MinInt, math.MaxInt} {
		wantBadRecord(t, impl.Record{Name: "a", Type: 6, Ttl: ttl, Data: "1"})
	}
	for _, ttl := range []string{"", "-1", "-0", "+0", "+60", "00", "060", "100001", "4294967296", "18446744073709551676", "0x10", "6_0", "1e2", "6.0", "a", "\u0661", strings.Repeat("9", 1<<16)} {
		wantNotRead(t, "a "+ttl+" 6 1")
	}
	for _, kind := range []string{"", "-1", "01", "+1", "001", "0", "3", "17", "A", "TypeA", "1.", "4294967297", "18446744073709551617", "\u0661"} {
		wantNotRead(t, "a 60 "+kind+" 1.2.3.4")
		wantNotRead(t, "a 60 "+kind+" 1")
		wantNotRead(t, "a 60 "+kind+" ")
	}
}

func TestTextsOfRecords(t *testing.T) {
	wantRecordBack(t, impl.Record{Type: 16}, ". 0 16 ")
	wantRecordBack(t, impl.Record{Type: 16, Data: " "}, ". 0 16  ")
	wantRecordBack(t, impl.Record{Type: 16, Data: "  a  b "}, ". 0 16   a  b ")
	wantRecordBack(t, impl.Record{Name: "a", Type: 16, Data: ". 0 16 "}, "a 0 16 . 0 16 ")
	wantRecordBack(t, impl.Record{Name: "*.ex", Type: 2, Ttl: 100000, Data: "ns.ex"}, "*.ex 100000 2 ns.ex")
	wantRecordBack(t, impl.Record{Name: "1.2.3.4", Type: 5, Ttl: 1, Data: "5.6.7.8"}, "1.2.3.4 1 5 5.6.7.8")
	wantRecordBack(t, impl.Record{Name: "ex", Type: 15, Ttl: 5, Data: "65535 mx"}, "ex 5 15 65535 mx")
	wantRecordBack(t, impl.Record{Name: "ex", Type: 6, Ttl: 5, Data: "4294967295"}, "ex 5 6 4294967295")
	bad := []string{
		"", " ", "  ", "   ", "    ", ".", ". ", ". 0", ". 0 ", ". 0 16", ".0 16 ", ". 016 ", "a 0 1", "a 0 1 ", "a 0 11.2.3.4", "a01 1.2.3.4",
		"a  0 1 1.2.3.4", "a 0  1 1.2.3.4", "a 0 1  1.2.3.4", " a 0 1 1.2.3.4", "a 0 1 1.2.3.4 ", "a 0 1 1.2.3.4 x", "a 0 1 1.2.3.4\n", "a\t0\t1\t1.2.3.4",
		"a 0 2 b ", "a 0 2  b", "a 0 2 b c", "a 0 5 ", "a 0 6 7 ", "a 0 6  7", "a 0 15 1  b", "a 0 15  1 b", "a 0 15 1 b ", "a 0 15 1b", "a 0 15 1 ",
		"A 0 1 1.2.3.4", "a. 0 1 1.2.3.4", ".. 0 1 1.2.3.4", "a 0 1 1.2.3.4.5", "1 0 a 1.2.3.4", "a 1 0 1.2.3.4", "a 0 16 " + strings.Repeat("x", 31),
		strings.Repeat(" ", 1<<16), strings.Repeat("a 0 1 1.2.3.4 ", 1<<12),
	}
	for _, s := range bad {
		wantNotRead(t, s)
	}
}

func TestDataOfTooFewOrManyBytes(t *testing.T) {
	for kind, pairs := range goodData() {
		for _, pair := range pairs {
			for n := range pair[1] {
				wantNotData(t, kind, pair[1][:n])
			}
			for _, more := range []string{"\x00", "a", "\x01", "\xc0\x00", pair[1]} {
				wantNotData(t, kind, pair[1]+more)
			}
		}
		wantNotData(t, kind, "")
		wantNotData(t, kind, strings.Repeat("\x00", 601))
		wantNotData(t, kind, strings.Repeat("a", 1<<16))
		wantNotData(t, kind, strings.Repeat("\xff", 1<<16))
	}
}

func TestNamesInDataBytes(t *testing.T) {
	bad := []string{
		"\x00", "\x01*\x00", "\x01*\x03com\x00", "\x01a\x01*\x00", "\x01A\x00", "\x02eX\x03com\x00", "\x02ex\x03COM\x00", "\x01.\x00", "\x03a.b\x00", "\x01 \x00",
		"\xc0\x00", "\xc0\x01", "\x01a\xc0\x00", "\x01a\xc0\x01", "\xc0", "\x40a\x00", "\x15" + label20 + "x\x00", strings.Repeat("\x01a", 9) + "\x00", "\x02a\x00\x00",
		wantPlain(name60[:57]) + "\x00", "\x14" + label20 + "\x14" + label20 + "\x0f" + strings.Repeat("y", 15) + "\x03abc\x00",
	}
	for _, b := range bad {
		wantNotData(t, 2, b)
		wantNotData(t, 5, b)
		wantNotData(t, 15, "\x00\x0a"+b)
	}
	// The number's two bytes are a name, or the end of one, to which a pointer can lead: TakeName would follow it.
	for _, b := range []string{"\x00\x00\xc0\x00", "\x00\x00\x01a\xc0\x00", "\x00\x00\x01a\xc0\x01", "\x01\x00\x01a\xc0\x01", "\x00\x01\x01a\xc0\x00"} {
		if _, _, ok := impl.TakeName(b, 2); !ok {
			t.Errorf("the test's bytes %q should be read by TakeName", b)
		}
		wantNotData(t, 15, b)
	}
}

func TestTextInDataBytes(t *testing.T) {
	for c := range 256 {
		b := "\x03a" + string([]byte{byte(c)}) + "b"
		data, ok := impl.ReadData(16, b)
		if good := c >= 32 && c <= 126; ok != good || ok && data != b[1:] || !ok && data != "" {
			t.Errorf("ReadData(16, %q) = %q, %v", b, data, ok)
		}
		long := string([]byte{byte(c)}) + strings.Repeat("x", c)
		if data, ok := impl.ReadData(16, long); ok != (c <= 30) || ok && data != long[1:] {
			t.Errorf("ReadData(16, %q) = %q, %v", long, data, ok)
		}
	}
	for _, b := range []string{"\x01", "\x01ab", "\x00a", "\x02a", "\x1f" + strings.Repeat("x", 31), "\x1e" + strings.Repeat("x", 29), "\xff"} {
		wantNotData(t, 16, b)
	}
}

func TestTargetOf(t *testing.T) {
	for _, name := range []string{"a", "ns.ex.com", name60, labels8} {
		for _, kind := range []int{2, 5} {
			if s, ok := impl.TargetOf(recordOf(kind, name)); s != name || !ok {
				t.Errorf("TargetOf type %d, %q = %q, %v", kind, name, s, ok)
			}
		}
		for _, rank := range []string{"0 ", "10 ", "65535 "} {
			if s, ok := impl.TargetOf(recordOf(15, rank+name)); s != name || !ok {
				t.Errorf("TargetOf type 15, %q = %q, %v", rank+name, s, ok)
			}
		}
	}
	for _, r := range []impl.Record{recordOf(1, "1.2.3.4"), recordOf(6, "7"), recordOf(16, "a"), recordOf(16, "10 a"), recordOf(16, "")} {
		if s, ok := impl.TargetOf(r); s != "" || ok {
			t.Errorf("TargetOf(%s) = %q, %v", shown(r), s, ok)
		}
	}
}

func TestRecordsAlikeButForOneField(t *testing.T) {
	cases := []struct{ less, more impl.Record }{
		{impl.Record{Name: "", Type: 16}, impl.Record{Name: "a", Type: 16}},
		{impl.Record{Name: "ex.com", Type: 16}, impl.Record{Name: "a.ex.com", Type: 16}},
		{impl.Record{Name: "z.a.ex", Type: 16}, impl.Record{Name: "b.ex", Type: 16}},
		{impl.Record{Name: "a", Type: 2, Data: "b"}, impl.Record{Name: "a", Type: 5, Data: "b"}},
		{impl.Record{Name: "a", Type: 6, Data: "7"}, impl.Record{Name: "a", Type: 16, Data: "7"}},
		{impl.Record{Name: "a", Type: 1, Data: "9.9.9.9"}, impl.Record{Name: "a", Type: 1, Data: "10.0.0.1"}},
		{impl.Record{Name: "a", Type: 1, Data: "127.0.0.0"}, impl.Record{Name: "a", Type: 1, Data: "128.0.0.0"}},
		{impl.Record{Name: "a", Type: 6, Data: "9"}, impl.Record{Name: "a", Type: 6, Data: "10"}},
		{impl.Record{Name: "a", Type: 6, Data: "255"}, impl.Record{Name: "a", Type: 6, Data: "256"}},
		{impl.Record{Name: "a", Type: 15, Data: "9 b"}, impl.Record{Name: "a", Type: 15, Data: "10 a"}},
		// By bytes, not by names: the length of a label stands ahead of it.
		{impl.Record{Name: "a", Type: 2, Data: "z"}, impl.Record{Name: "a", Type: 2, Data: "aa"}},
		{impl.Record{Name: "a", Type: 2, Data: "a.z"}, impl.Record{Name: "a", Type: 2, Data: "b.a"}},
		{impl.Record{Name: "a", Type: 16, Data: "z"}, impl.Record{Name: "a", Type: 16, Data: "aa"}},
		{impl.Record{Name: "a", Type: 16, Data: ""}, impl.Record{Name: "a", Type: 16, Data: " "}},
		{impl.Record{Name: "a", Type: 16, Ttl: 0}, impl.Record{Name: "a", Type: 16, Ttl: 1}},
		{impl.Record{Name: "a", Type: 16, Ttl: 9}, impl.Record{Name: "a", Type: 16, Ttl: 10}},
		// Each field counts ahead of those behind it.
		{impl.Record{Name: "a", Type: 16, Ttl: 9, Data: "z"}, impl.Record{Name: "b", Type: 1, Ttl: 1, Data: "0.0.0.0"}},
		{impl.Record{Name: "a", Type: 6, Ttl: 9, Data: "4294967295"}, impl.Record{Name: "a", Type: 15, Ttl: 1, Data: "0 a"}},
		{impl.Record{Name: "a", Type: 6, Ttl: 9, Data: "1"}, impl.Record{Name: "a", Type: 6, Ttl: 1, Data: "2"}},
	}
	for _, c := range cases {
		wantCompared(t, c.less, c.more, -1)
		wantCompared(t, c.more, c.less, 1)
		wantCompared(t, c.less, c.less, 0)
		wantCompared(t, c.more, c.more, 0)
	}
}

func wantCompared(t *testing.T, a, b impl.Record, want int) {
	t.Helper()
	if n, ok := impl.CompareRecords(a, b); n != want || !ok {
		t.Errorf("CompareRecords(%s, %s) = %d, %v; want %d", shown(a), shown(b), n, ok, want)
	}
}

func wantGathered(t *testing.T, l []impl.Record, sets ...impl.Set) {
	t.Helper()
	if got, ok := impl.SetsOf(l); !alikeSets(got, sets) || !ok {
		t.Errorf("SetsOf(%s) = %s, %v; want %s", shown(l), shown(got), ok, shown(sets))
	}
}

func wantNotGathered(t *testing.T, l []impl.Record) {
	t.Helper()
	if sets, ok := impl.SetsOf(l); len(sets) != 0 || ok {
		t.Errorf("SetsOf of %d (%s) = %s, %v", len(l), shown(l), shown(sets), ok)
	}
}

func TestSetsOf(t *testing.T) {
	wantGathered(t, nil)
	wantGathered(t, []impl.Record{})
	one := impl.Record{Name: "a", Type: 1, Ttl: 5, Data: "10.0.0.1"}
	two := impl.Record{Name: "a", Type: 1, Ttl: 5, Data: "9.9.9.9"}
	note := impl.Record{Name: "a", Type: 16, Ttl: 6}
	below := impl.Record{Name: "b.a", Type: 2, Ttl: 0, Data: "ns"}
	root := impl.Record{Name: "", Type: 6, Ttl: 100000, Data: "1"}
	addresses := impl.Set{Name: "a", Type: 1, Ttl: 5, Data: []string{"9.9.9.9", "10.0.0.1"}}
	notes := impl.Set{Name: "a", Type: 16, Ttl: 6, Data: []string{""}}
	cut := impl.Set{Name: "b.a", Type: 2, Ttl: 0, Data: []string{"ns"}}
	top := impl.Set{Name: "", Type: 6, Ttl: 100000, Data: []string{"1"}}
	wantGathered(t, []impl.Record{one}, impl.Set{Name: "a", Type: 1, Ttl: 5, Data: []string{"10.0.0.1"}})
	wantGathered(t, []impl.Record{one, two}, addresses)
	wantGathered(t, []impl.Record{two, one}, addresses)
	wantGathered(t, []impl.Record{below, note, two, root, one}, top, addresses, notes, cut)
	// Each Data once.
	wantGathered(t, []impl.Record{note, note}, notes)
	wantGathered(t, []impl.Record{one, two, one, note, one, two, note}, addresses, notes)
	// Unlike ttls within one Name and Type, of like data and of unlike data.
	slow := one
	slow.Ttl = 6
	wantNotGathered(t, []impl.Record{one, slow})
	wantNotGathered(t, []impl.Record{slow, one})
	wantNotGathered(t, []impl.Record{two, slow})
	wantNotGathered(t, []impl.Record{slow, note, root, two})
	wantNotGathered(t, []impl.Record{one, two, note, {Name: "a", Type: 16, Ttl: 5, Data: "x"}})
}

func TestSetsOfLimits(t *testing.T) {
	wantNotGathered(t, manyOfOne(61))
	wantNotGathered(t, slices.Repeat(manyOfOne(1), 61))
	wantNotGathered(t, append(manyOfOne(60), manyOfOne(1)...))
	wantNotGathered(t, make([]impl.Record, 1<<16))
	wantNotGathered(t, manyRecords(41))
	wantNotGathered(t, manyRecords(60))
	wantNotGathered(t, append(manyRecords(40), manyOfOne(20)...))
	if sets, ok := impl.SetsOf(manyOfOne(60)); !ok || len(sets) != 1 || len(sets[0].Data) != 60 {
		t.Errorf("60 records of one set: %d sets, %v", len(sets), ok)
	}
	if sets, ok := impl.SetsOf(slices.Repeat(manyOfOne(1), 60)); !ok || len(sets) != 1 || len(sets[0].Data) != 1 {
		t.Errorf("60 times one record: %d sets, %v", len(sets), ok)
	}
	if sets, ok := impl.SetsOf(manyRecords(40)); !ok || len(sets) != 40 {
		t.Errorf("40 sets: %d, %v", len(sets), ok)
	}
	if sets, ok := impl.SetsOf(append(manyRecords(39), manyOfOne(21)...)); !ok || len(sets) != 40 {
		t.Errorf("40 sets of 60 records: %d, %v", len(sets), ok)
	}
}

func setsFrom(t *testing.T, l []impl.Record) []impl.Set {
	t.Helper()
	sets, ok := wantSets(l)
	if !ok {
		t.Fatal("the test's own sets are not as said")
	}
	return sets
}

func wantSpread(t *testing.T, l []impl.Set, records ...impl.Record) {
	t.Helper()
	if got, ok := impl.RecordsOf(l); !slices.Equal(got, records) || !ok {
		t.Errorf("RecordsOf(%s) = %s, %v; want %s", shown(l), shown(got), ok, shown(records))
	}
}

func TestRecordsOf(t *testing.T) {
	wantSpread(t, nil)
	wantSpread(t, []impl.Set{})
	notes := impl.Set{Name: "a", Type: 16, Ttl: 6, Data: []string{"", "b", "aa"}}
	hosts := impl.Set{Name: "a", Type: 2, Ttl: 6, Data: []string{"z", "aa"}}
	below := impl.Set{Name: "b.a", Type: 1, Ttl: 0, Data: []string{"9.0.0.0", "10.0.0.0"}}
	spreadNotes := []impl.Record{{Name: "a", Type: 16, Ttl: 6}, {Name: "a", Type: 16, Ttl: 6, Data: "b"}, {Name: "a", Type: 16, Ttl: 6, Data: "aa"}}
	spreadHosts := []impl.Record{{Name: "a", Type: 2, Ttl: 6, Data: "z"}, {Name: "a", Type: 2, Ttl: 6, Data: "aa"}}
	spreadBelow := []impl.Record{{Name: "b.a", Type: 1, Data: "9.0.0.0"}, {Name: "b.a", Type: 1, Data: "10.0.0.0"}}
	wantSpread(t, []impl.Set{notes}, spreadNotes...)
	wantSpread(t, []impl.Set{hosts, notes, below}, slices.Concat(spreadHosts, spreadNotes, spreadBelow)...)
	// In the wrong order, by Type and by Name, and twice.
	wantNotSets(t, []impl.Set{notes, hosts})
	wantNotSets(t, []impl.Set{below, notes})
	wantNotSets(t, []impl.Set{hosts, below, notes})
	wantNotSets(t, []impl.Set{notes, notes})
	wantNotSets(t, []impl.Set{hosts, notes, {Name: "a", Type: 16, Ttl: 6, Data: []string{"aab"}}})
	wantNotSets(t, []impl.Set{hosts, notes, {Name: "a", Type: 16, Ttl: 7, Data: []string{"aab"}}})
	// Data empty, out of order, twice, or not of the type.
	for _, data := range [][]string{nil, {}, {"aa", "z"}, {"z", "z"}, {"z", "aa", "z"}, {"z", "aa", "aa"}, {"*"}, {"z", ""}, {""}, {"z", "1 a"}} {
		set := impl.Set{Name: "a", Type: 2, Ttl: 6, Data: data}
		wantNotSets(t, []impl.Set{set})
		wantNotSets(t, []impl.Set{set, notes})
		wantNotSets(t, []impl.Set{{Name: "", Type: 16, Data: []string{""}}, set})
	}
	wantNotSets(t, []impl.Set{{}})
	wantNotSets(t, []impl.Set{{Name: "a", Type: 1, Data: []string{"10.0.0.0", "9.0.0.0"}}})
}

func TestRecordsOfLimits(t *testing.T) {
	forty := setsFrom(t, manyRecords(40))
	if records, ok := impl.RecordsOf(forty); !slices.Equal(records, manyRecords(40)) || !ok {
		t.Errorf("40 sets: %d records, %v", len(records), ok)
	}
	last := impl.Set{Name: "n99.ex", Type: 1, Ttl: 7, Data: []string{"1.2.3.4"}}
	wantNotSets(t, append(forty, last))
	wantNotSets(t, make([]impl.Set, 1<<16))
	if records, ok := impl.RecordsOf(setsFrom(t, manyOfOne(60))); !slices.Equal(records, manyOfOne(60)) || !ok {
		t.Errorf("60 records: %d, %v", len(records), ok)
	}
	many := impl.Set{Name: "ex", Type: 1, Ttl: 7}
	for _, r := range manyOfOne(61) {
		many.Data = append(many.Data, r.Data)
	}
	wantNotSets(t, []impl.Set{many})
	many.Data = many.Data[:60]
	wantNotSets(t, []impl.Set{many, last})
	many.Data = many.Data[:59]
	if records, ok := impl.RecordsOf([]impl.Set{many, last}); len(records) != 60 || !ok {
		t.Errorf("59 and 1 records: %d, %v", len(records), ok)
	}
}

func TestRecordsComeBack(t *testing.T) {
	r := rand.New(rand.NewSource(5))
	for range 5000 {
		one := goodRandomRecord(r)
		text, ok := impl.RecordText(one)
		if back, good := impl.ReadRecord(text); back != one || !ok || !good {
			t.Fatalf("%s comes back from %q as %s, %v, %v", shown(one), text, shown(back), ok, good)
		}
		b, ok := impl.DataBytes(one.Type, one.Data)
		if data, good := impl.ReadData(one.Type, b); data != one.Data || !ok || !good {
			t.Fatalf("%s comes back from %q as %q, %v, %v", shown(one), b, data, ok, good)
		}
	}
}

// The records of sets have the order of records, and their sets again are the same.
func TestSetsComeBackFromTheirRecords(t *testing.T) {
	r := rand.New(rand.NewSource(6))
	for range 1000 {
		l := goodRandomRecords(r, 60)
		sets, ok := impl.SetsOf(l)
		want, wantOk := wantSets(l)
		if !alikeSets(sets, want) || ok != wantOk {
			t.Fatalf("SetsOf(%s) = %s, %v; want %s, %v", shown(l), shown(sets), ok, shown(want), wantOk)
		}
		records, good := impl.RecordsOf(sets)
		if !good || !slices.IsSortedFunc(records, func(a, b impl.Record) int {
			order, _ := impl.CompareRecords(a, b)
			return order
		}) {
			t.Fatalf("RecordsOf(%s) = %s, %v", shown(sets), shown(records), good)
		}
		for _, one := range l {
			if ok && !slices.Contains(records, one) {
				t.Fatalf("%s is lost in %s", shown(one), shown(sets))
			}
		}
		if again, good := impl.SetsOf(records); !alikeSets(again, sets) || !good {
			t.Fatalf("SetsOf(%s) = %s, %v", shown(records), shown(again), good)
		}
	}
}

func TestOrderOfRecords(t *testing.T) {
	r := rand.New(rand.NewSource(7))
	l := goodRandomRecords(r, 300)
	for _, a := range l {
		for _, b := range l {
			want, _ := wantRecordOrder(a, b)
			wantCompared(t, a, b, want)
			if want == 0 && a != b {
				t.Errorf("%s and %s are unlike", shown(a), shown(b))
			}
		}
	}
}
