package tests

import (
	"math"
	"slices"
	"strconv"
	"strings"
	"testing"

	"loop.example/g01269/impl"
)

// lineOf is the document's rule of an encoding, for the tests alone, whether the record is valid or not.
func lineOf(k int, e impl.LogRecord) string {
	text := strconv.Itoa(k) + " " + e.Command + "@" + e.Reply
	return text + "#" + strconv.Itoa(sumOf(text)) + "\n"
}

// linesOf returns the encodings of records with the sequence numbers from 0 on.
func linesOf(records []impl.LogRecord) []string {
	var lines []string
	for k, e := range records {
		lines = append(lines, lineOf(k, e))
	}
	return lines
}

// textOf returns the encodings of records, one behind the other.
func textOf(records []impl.LogRecord) string { return strings.Join(linesOf(records), "") }

// logOf returns the log of records of which the first ones are durable.
func logOf(records []impl.LogRecord, durable int) impl.Log {
	lines := linesOf(records)
	return impl.Log{Durable: strings.Join(lines[:durable], ""), Pending: strings.Join(lines[durable:], ""), Count: len(records)}
}

// manyRecords returns valid records of all kinds: those with the least and the most bytes, with `@` in the reply, with spaces alone, with digits as in sequence numbers, and such as the console makes.
func manyRecords(many int) []impl.LogRecord {
	kinds := []impl.LogRecord{
		{Command: "open", Reply: "0 1 2"}, {Command: "a"}, {Command: " ", Reply: " "}, {Command: "  yes  1 ", Reply: "?"},
		{Command: strings.Repeat("~", 160), Reply: strings.Repeat("@", 250)}, {Command: "0", Reply: "@"}, {Command: "1 0", Reply: "a@b@"},
		{Command: "!\"$%&'()*+,-./:;<=>?[\\]^_`{|}", Reply: "0 open@?"}, {Command: strings.Repeat(" ", 160)}, {Command: "x", Reply: strings.Repeat("z", 250)},
	}
	var records []impl.LogRecord
	for i := range many {
		records = append(records, kinds[i%len(kinds)])
	}
	return records
}

// mostRecords returns as many records as a log can have, all with the most bytes.
func mostRecords() []impl.LogRecord {
	return slices.Repeat([]impl.LogRecord{{Command: strings.Repeat("c", 160), Reply: strings.Repeat("r", 250)}}, 60)
}

// isRecordBy is the document's rule of valid records, for the tests alone.
func isRecordBy(e impl.LogRecord) bool {
	for _, c := range []byte(e.Command + e.Reply) {
		if c < 32 || c > 126 || c == '#' {
			return false
		}
	}
	return len(e.Command) >= 1 && len(e.Command) <= 160 && len(e.Reply) <= 250 && !strings.Contains(e.Command, "@")
}

// someRecords returns records that are valid and that are not: each byte at each end and within, alone, and lengths at the bounds and beyond.
func someRecords() []impl.LogRecord {
	var all []impl.LogRecord
	for c := range 256 {
		b := string([]byte{byte(c)})
		for _, text := range []string{b, b + "ab", "ab" + b, "a" + b + "b", strings.Repeat("a", 159) + b, b + strings.Repeat(b, 159)} {
			all = append(all, impl.LogRecord{Command: text, Reply: "r"}, impl.LogRecord{Command: "c", Reply: text}, impl.LogRecord{Command: text, Reply: text})
		}
	}
	for _, c := range []string{"a", " ", "~", "@", "#", "\n", "\xff"} {
		for _, size := range []int{0, 1, 2, 159, 160, 161, 249, 250, 251, 252, 4000, 1 << 16} {
			all = append(all, impl.LogRecord{Command: strings.Repeat(c, size), Reply: "r"}, impl.LogRecord{Command: "c", Reply: strings.Repeat(c, size)}, impl.LogRecord{Command: strings.Repeat(c, size)})
		}
	}
	return append(all, impl.LogRecord{}, impl.LogRecord{Reply: "r"}, impl.LogRecord{Command: "\u00e9"}, impl.LogRecord{Command: "c", Reply: "\u00e9"})
}

func TestP12RecordsAreValid(t *testing.T) {
	valid := 0
	for _, e := range append(someRecords(), manyRecords(10)...) {
		if is := impl.IsValidRecord(e); is != isRecordBy(e) {
			t.Errorf("IsValidRecord(%.20q, %.20q of %d and %d bytes) = %v", e.Command, e.Reply, len(e.Command), len(e.Reply), is)
		} else if is {
			valid++
		}
	}
	if valid < 1000 {
		t.Errorf("only %d records are valid", valid)
	}
}

func TestP12RecordsAreEncoded(t *testing.T) {
	for i, e := range append(someRecords(), manyRecords(10)...) {
		for _, k := range []int{0, 1, 9, 10, 58, 59, i % 60, 60, 61, -1, math.MaxInt, math.MinInt} {
			line, ok := impl.EncodeRecord(k, e)
			if can := isRecordBy(e) && k >= 0 && k < 60; ok != can || can && line != lineOf(k, e) || !can && line != "" {
				t.Fatalf("EncodeRecord(%d, %.20q, %.20q) = %q, %v", k, e.Command, e.Reply, line, ok)
			}
		}
	}
	for _, c := range []struct {
		k    int
		e    impl.LogRecord
		want string
	}{
		{0, impl.LogRecord{Command: "told", Reply: "?"}, "0 told@?#607983\n"},
		{7, impl.LogRecord{Command: "a"}, "7 a@#699942\n"},
		{59, impl.LogRecord{Command: " ", Reply: "@ @"}, "59  @@ @#67428\n"},
	} {
		if line, ok := impl.EncodeRecord(c.k, c.e); !ok || line != c.want {
			t.Errorf("EncodeRecord(%d, %v) = %q, %v", c.k, c.e, line, ok)
		}
	}
}

func TestP12LogsGiveTheirRecordsBack(t *testing.T) {
	for many := range 61 {
		records := manyRecords(many)
		for _, durable := range []int{0, many / 3, many} {
			l := logOf(records, durable)
			all, ok := impl.LogRecords(l)
			if !ok || !slices.Equal(all, records) || !impl.IsValidLog(l) {
				t.Fatalf("LogRecords of %d records, %d durable: %d, %v", many, durable, len(all), ok)
			}
		}
	}
	for _, durable := range []int{0, 30, 60} {
		l := logOf(mostRecords(), durable)
		if all, ok := impl.LogRecords(l); !ok || !slices.Equal(all, mostRecords()) {
			t.Errorf("LogRecords of the most bytes, %d durable: %d, %v", durable, len(all), ok)
		}
	}
}

func TestP12LogsAreDurableToTheEndOfAnEncoding(t *testing.T) {
	records := manyRecords(6)
	text, ends := textOf(records), []int{0}
	for _, line := range linesOf(records) {
		ends = append(ends, ends[len(ends)-1]+len(line))
	}
	for i := range len(text) + 1 {
		l := impl.Log{Durable: text[:i], Pending: text[i:], Count: 6}
		if is := impl.IsValidLog(l); is != slices.Contains(ends, i) {
			t.Fatalf("a log of which %d bytes are durable is valid: %v", i, is)
		}
	}
}

// isLogBy is the document's rule of valid logs, for the tests alone: each line ends with a newline, and has no other one.
func isLogBy(l impl.Log) bool {
	text := l.Durable + l.Pending
	lines := strings.SplitAfter(text, "\n")
	lines = lines[:len(lines)-1]
	for k, line := range lines {
		command, reply, _ := strings.Cut(line[strings.Index(line, " ")+1:], "@")
		e := impl.LogRecord{Command: command, Reply: reply[:max(0, strings.LastIndex(reply, "#"))]}
		if !isRecordBy(e) || line != lineOf(k, e) {
			return false
		}
	}
	return len(text) <= 30000 && len(lines) == l.Count && l.Count <= 60 && isWhole(l.Durable) && isWhole(l.Pending)
}

// isWhole reports whether a text has nothing but whole lines.
func isWhole(text string) bool { return text == "" || strings.HasSuffix(text, "\n") }

// badLogs returns what is no log: with another Count, with lines that are incomplete, that come in another order, that are missing, that are there twice, that have another number or are of records that are not valid, with other bytes between and behind them, and with too many.
func badLogs() []impl.Log {
	records := manyRecords(5)
	lines, text := linesOf(records), textOf(records)
	var all []impl.Log
	for _, count := range []int{-1, 0, 4, 6, 60, 61, math.MaxInt, math.MinInt} {
		all = append(all, impl.Log{Durable: text, Count: count}, impl.Log{Pending: text, Count: count}, impl.Log{Durable: lines[0], Pending: strings.Join(lines[1:], ""), Count: count})
	}
	all = append(all, impl.Log{Count: 1}, impl.Log{Count: -1}, impl.Log{Count: math.MaxInt})
	for many := range 6 {
		for _, bad := range []string{
			strings.TrimSuffix(text, "\n"), text + "\n", "\n" + text, text + " ", " " + text, text + "5", text + "x\n", strings.Join(lines[1:], ""), lines[1] + lines[0], lines[0] + lines[0],
			lines[0] + lines[2], "0" + text, "+" + text, "-" + text, strings.ReplaceAll(text, "\n", "\r\n"), strings.ReplaceAll(text, "\n", ""), strings.ReplaceAll(text, "\n", "\n\n"),
			lineOf(1, records[0]), lineOf(-1, records[0]), "00" + lineOf(0, records[0])[1:], lineOf(0, impl.LogRecord{}), lineOf(0, impl.LogRecord{Reply: "r"}), lineOf(0, impl.LogRecord{Command: "c\t"}),
			lineOf(0, impl.LogRecord{Command: "c", Reply: "\xff"}), lineOf(0, impl.LogRecord{Command: "c", Reply: "a#b"}), lineOf(0, impl.LogRecord{Command: strings.Repeat("c", 161)}), lineOf(0, impl.LogRecord{Command: "c", Reply: strings.Repeat("r", 251)}),
			lineOf(0, impl.LogRecord{Command: "c", Reply: "a\nb"}), "0 c#" + strconv.Itoa(sumOf("0 c")) + "\n", "0@c#" + strconv.Itoa(sumOf("0@c")) + "\n",
			strings.Replace(lineOf(0, records[0]), "#", "#0", 1), strings.Replace(lineOf(0, records[0]), "#", "#+", 1), strings.Replace(lineOf(0, records[0]), "#", "", 1), "0 open@0 1 2#1\n",
			strings.Repeat("x", 30000), strings.Repeat("\n", 30000), strings.Repeat("x", 30001), strings.Repeat(text, 1000),
		} {
			all = append(all, impl.Log{Durable: bad, Count: many}, impl.Log{Pending: bad, Count: many}, impl.Log{Durable: lines[0], Pending: bad, Count: many + 1}, impl.Log{Durable: bad, Pending: lines[0], Count: many + 1})
		}
	}
	more := append(mostRecords(), impl.LogRecord{Command: "c"})
	for _, durable := range []int{0, 59, 60, 61} {
		for _, many := range []int{60, 61} {
			l := logOf(more, durable)
			l.Count = many
			all = append(all, l)
		}
	}
	// Durable ends within an encoding.
	all = append(all, impl.Log{Durable: text[:3], Pending: text[3:], Count: 5}, impl.Log{Durable: text[:len(text)-1], Pending: "\n", Count: 5})
	// Some of these are valid logs all the same: what is no first line can be a second one.
	return slices.DeleteFunc(all, isLogBy)
}

func TestP12OtherLogsAreNotValid(t *testing.T) {
	for i, l := range badLogs() {
		if impl.IsValidLog(l) {
			t.Errorf("the log %d is valid: %.60q, %.60q, %d", i, l.Durable, l.Pending, l.Count)
		}
	}
	for many := range 61 {
		for durable := range many + 1 {
			if l := logOf(manyRecords(many), durable); !isLogBy(l) || !impl.IsValidLog(l) {
				t.Errorf("a log of %d records, %d durable, is not valid", many, durable)
			}
		}
	}
	if !impl.IsValidLog(impl.Log{}) {
		t.Error("the empty log is not valid")
	}
}

func TestP12OneChangedByteMakesNoLog(t *testing.T) {
	records := manyRecords(4)
	text := textOf(records)
	for i := range len(text) {
		for _, c := range []byte{0, '\n', ' ', '#', '@', '0', '1', '9', 'a', '~', 127, 255, 255 - text[i], text[i] + 1, text[i] ^ 32} {
			if c == text[i] {
				continue
			}
			changed := changedAt(text, i, c)
			if impl.IsValidLog(impl.Log{Durable: changed, Count: 4}) || impl.IsValidLog(impl.Log{Pending: changed, Count: 4}) {
				t.Fatalf("a log with the byte %d at %d is valid", c, i)
			}
		}
	}
}

func TestP12RecordsAreAppended(t *testing.T) {
	records := manyRecords(60)
	for _, durable := range []int{0, 5, 59} {
		l := impl.Log{}
		for k, e := range records {
			want := logOf(records[:k+1], min(durable, k))
			next, code := impl.AppendRecord(l, e)
			if k < durable {
				// All records so far have been made durable.
				want = logOf(records[:k+1], k)
			}
			if code != impl.LogOK || next != want {
				t.Fatalf("AppendRecord of %v to %d records = %v, %d", e, k, next, code)
			}
			l = next
			if k < durable {
				l, _ = impl.SyncLog(l)
			}
		}
		if next, code := impl.AppendRecord(l, records[0]); code != impl.LogFull || next != l {
			t.Errorf("AppendRecord to a full log: %d", code)
		}
	}
}

func TestP12AppendRecordChecksInOrder(t *testing.T) {
	good, bad := impl.LogRecord{Command: "c"}, impl.LogRecord{Command: "@"}
	full := logOf(manyRecords(60), 20)
	over := impl.Log{Durable: full.Durable, Pending: full.Pending, Count: 61}
	for _, c := range []struct {
		l    impl.Log
		e    impl.LogRecord
		want int
	}{
		{full, good, impl.LogFull}, {full, bad, impl.LogInvalid}, {over, good, impl.LogInvalid}, {over, bad, impl.LogInvalid}, {logOf(mostRecords(), 60), good, impl.LogFull},
		{logOf(manyRecords(59), 59), bad, impl.LogInvalid}, {impl.Log{}, bad, impl.LogInvalid}, {impl.Log{}, impl.LogRecord{}, impl.LogInvalid}, {impl.Log{Count: 60}, good, impl.LogInvalid}, {impl.Log{Pending: "x"}, good, impl.LogInvalid},
	} {
		if l, code := impl.AppendRecord(c.l, c.e); code != c.want || l != c.l {
			t.Errorf("AppendRecord to %d records of %v = %d, the same log: %v", c.l.Count, c.e, code, l == c.l)
		}
	}
	for _, e := range someRecords() {
		l := logOf(manyRecords(3), 1)
		next, code := impl.AppendRecord(l, e)
		want, wanted := l, impl.LogInvalid
		if isRecordBy(e) {
			want, wanted = logOf(append(manyRecords(3), e), 1), impl.LogOK
		}
		if code != wanted || next != want {
			t.Fatalf("AppendRecord of %.20q, %.20q = %d", e.Command, e.Reply, code)
		}
	}
	for i, l := range badLogs() {
		if next, code := impl.AppendRecord(l, good); code != impl.LogInvalid || next != l {
			t.Errorf("AppendRecord to the log %d that is not valid = %d", i, code)
		}
	}
}

func TestP12SyncLogMakesAllDurable(t *testing.T) {
	for many := range 61 {
		for _, durable := range []int{0, many / 2, many} {
			l, ok := impl.SyncLog(logOf(manyRecords(many), durable))
			if !ok || l != logOf(manyRecords(many), many) {
				t.Fatalf("SyncLog of %d records, %d durable: %v", many, durable, ok)
			}
		}
	}
}

func TestP12CrashesKeepSomeBytes(t *testing.T) {
	records := manyRecords(7)
	for _, durable := range []int{0, 1, 4, 6, 7} {
		l := logOf(records, durable)
		for keep := -2; keep <= len(l.Pending)+2; keep++ {
			for _, torn := range []bool{false, true} {
				s, ok := impl.CrashLog(l, keep, torn)
				if keep < 0 || keep > len(l.Pending) {
					if ok || s != "" {
						t.Errorf("CrashLog of %d bytes, keeping %d: %d bytes, %v", len(l.Pending), keep, len(s), ok)
					}
					continue
				}
				want := l.Durable + l.Pending[:keep]
				if torn && keep > 0 {
					want = changedAt(want, len(want)-1, 255-want[len(want)-1])
				}
				if !ok || s != want {
					t.Fatalf("CrashLog of %d durable records, keeping %d, torn %v: %d bytes, %v", durable, keep, torn, len(s), ok)
				}
			}
		}
	}
	for _, keep := range farNumbers() {
		if s, ok := impl.CrashLog(logOf(records, 3), keep, keep%2 == 0); ok || s != "" {
			t.Errorf("CrashLog keeping %d: %d bytes, %v", keep, len(s), ok)
		}
	}
}

func TestP12RecoveredLogsHaveAllWholeRecords(t *testing.T) {
	records := manyRecords(7)
	lines := linesOf(records)
	for _, durable := range []int{0, 1, 4, 7} {
		l := logOf(records, durable)
		for keep := range len(l.Pending) + 1 {
			for _, torn := range []bool{false, true} {
				left := keep
				if torn && keep > 0 {
					left--
				}
				many := durable
				for many < 7 && len(lines[many]) <= left {
					left -= len(lines[many])
					many++
				}
				s, _ := impl.CrashLog(l, keep, torn)
				got, read, ok := impl.RecoverLog(s)
				if want := logOf(records[:many], many); !ok || got != want || read != len(want.Durable) || !impl.IsValidLog(got) {
					t.Fatalf("%d durable records, keeping %d, torn %v: %d records, %d bytes, %v", durable, keep, torn, got.Count, read, ok)
				}
			}
		}
	}
}

func TestP12RecoverLogStopsAtTheFirstOtherLine(t *testing.T) {
	records := manyRecords(5)
	lines := linesOf(records)
	for k := range lines {
		before := strings.Join(lines[:k], "")
		want := logOf(records[:k], k)
		for _, other := range []string{"", "\n", "x", " " + lines[k], "0" + lines[k], strings.TrimSuffix(lines[k], "\n"), lineOf(k+1, records[k]), lineOf(k, impl.LogRecord{Command: "@"}), lineOf(k, impl.LogRecord{Command: "c", Reply: "\x80"}), strings.TrimSuffix(lines[k], "\n") + "\r\n"} {
			if other != "" {
				// What comes behind it is not read.
				other += strings.Join(lines[k:], "")
			}
			got, read, ok := impl.RecoverLog(before + other)
			if !ok || got != want || read != len(before) {
				t.Errorf("RecoverLog of %d lines and %.20q = %v, %d, %v", k, other, got, read, ok)
			}
		}
		text := strings.Join(lines, "")
		for i := len(before); i < len(before)+len(lines[k]); i++ {
			for _, c := range []byte{0, '\n', ' ', '#', '@', '0', '1', 'a', 255 - text[i], text[i] + 1, text[i] - 1} {
				if c == text[i] {
					continue
				}
				if got, read, ok := impl.RecoverLog(changedAt(text, i, c)); !ok || got != want || read != len(before) {
					t.Fatalf("RecoverLog with the byte %d at %d = %d records, %d bytes, %v", c, i, got.Count, read, ok)
				}
			}
		}
	}
}

func TestP12RecoverLogHasBounds(t *testing.T) {
	for many := range 62 {
		records := append(mostRecords(), impl.LogRecord{Command: "c"})[:many]
		got, read, ok := impl.RecoverLog(textOf(records))
		if want := logOf(records[:min(many, 60)], min(many, 60)); !ok || got != want || read != len(want.Durable) {
			t.Errorf("RecoverLog of %d records = %d records, %d bytes, %v", many, got.Count, read, ok)
		}
	}
	for _, records := range [][]impl.LogRecord{nil, manyRecords(5), mostRecords()} {
		want := logOf(records, len(records))
		for _, c := range []string{"x", "\n", "0 ", "@", "\x00"} {
			whole := want.Durable + strings.Repeat(c, 30001)
			if got, read, ok := impl.RecoverLog(whole[:30000]); !ok || got != want || read != len(want.Durable) {
				t.Errorf("RecoverLog of 30000 bytes = %d records, %d bytes, %v", got.Count, read, ok)
			}
			if !zero2(impl.RecoverLog(whole[:30001])) {
				t.Error("RecoverLog of 30001 bytes")
			}
		}
	}
	if got, read, ok := impl.RecoverLog(""); !ok || got != (impl.Log{}) || read != 0 {
		t.Errorf("RecoverLog of nothing = %v, %d, %v", got, read, ok)
	}
}
