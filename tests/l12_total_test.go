package tests

import (
	"math"
	"reflect"
	"slices"
	"strings"
	"testing"

	"loop.example/g01269/impl"
)

// badRooms returns what is no Room: with too few or too many numbers, Turns or lies, with false answers that there cannot be at each place, and with something behind them.
func badRooms() []impl.Room {
	var all []impl.Room
	for _, n := range append(badSizes(), farNumbers()...) {
		all = append(all, impl.Room{Numbers: n}, impl.Room{Numbers: n, Most: 2, Count: 5, Lies: [12]int{1, 2, -1}})
	}
	for _, n := range []int{1, 2, 11, 12} {
		for _, far := range append(farNumbers(), -1, -2, 3, 4) {
			all = append(all, impl.Room{Numbers: n, Most: far})
		}
		for _, far := range append(farNumbers(), -1, -2, 1001, 1002) {
			all = append(all, impl.Room{Numbers: n, Count: far}, impl.Room{Numbers: n, Most: 2, Count: far})
		}
		for most := range 3 {
			for k := range 12 {
				for _, lies := range append(farNumbers(), -2, -1, 1, 2, 3) {
					if k < n && lies >= -1 && lies <= most {
						continue
					}
					r := impl.Room{Numbers: n, Most: most, Count: k}
					r.Lies[k] = lies
					all = append(all, r)
				}
			}
		}
	}
	return all
}

func TestP13RoomFunctionsFailForBadRooms(t *testing.T) {
	turns := []impl.Turn{{}, {Kind: impl.TurnYes, A: 1}, {Kind: impl.TurnNo}, {Kind: impl.TurnRule}, {Kind: impl.TurnForgive}, {Kind: impl.TurnStart, A: 3, B: 1}, {Kind: -1}}
	for _, r := range badRooms() {
		wrong := wrongOf(map[string]bool{
			"IsRoom":                !impl.IsRoom(r),
			"StateOfRoom":           zero1(impl.StateOfRoom(r)),
			"DoTurns of none":       zero2(impl.DoTurns(r, nil)),
			"DoTurns":               zero2(impl.DoTurns(r, turns[5:])),
			"NewConsole":            zero1(impl.NewConsole(r)),
			"IsValidConsole":        !impl.IsValidConsole(impl.Console{Room: r}),
			"RunScript":             zero1(impl.RunScript(impl.Console{Room: r}, "open\nstart 3 1")),
			"ReplayLog":             zero1(impl.ReplayLog(r, logOf(manyRecords(2), 1))),
			"ReplayLog of no Turns": zero1(impl.ReplayLog(r, impl.Log{})),
		})
		for _, turn := range turns {
			if !zero1(impl.DoTurn(r, turn)) || !zero2(impl.DoTurns(r, []impl.Turn{turn})) {
				wrong = append(wrong, "DoTurn")
			}
		}
		c := impl.Console{Room: r, Log: logOf(manyRecords(3), 2)}
		if got, reply := impl.ExecuteCommand(c, "start 3 1"); got != c || reply != "no" {
			wrong = append(wrong, "ExecuteCommand")
		}
		if len(wrong) > 0 {
			t.Errorf("%v of %v", wrong, r)
		}
	}
	for _, s := range badStates() {
		if !zero1(impl.NewRoom(s)) {
			t.Errorf("NewRoom of %d numbers, Most %d", len(s.Lies), s.Most)
		}
	}
}

func TestP13TurnsThatAreNotPossibleFail(t *testing.T) {
	for _, s := range largeStates() {
		r := roomBy(s, 999)
		for _, far := range append(farNumbers(), -1, -77, 4096) {
			for kind := -1; kind <= 7; kind++ {
				for _, turn := range []impl.Turn{{Kind: kind, A: far}, {Kind: kind, A: 1, B: far}, {Kind: kind, A: far, B: far}, {Kind: far, A: 1, B: 1}, {Kind: far}} {
					if !zero1(impl.DoTurn(r, turn)) {
						t.Errorf("DoTurn(%v, %v)", r, turn)
					}
					if end, many, ok := impl.DoTurns(r, []impl.Turn{turn, {Kind: impl.TurnYes}}); !ok || many != 0 || end != r {
						t.Errorf("DoTurns(%v, %v) = %v, %d, %v", r, turn, end, many, ok)
					}
				}
			}
		}
	}
}

func TestP13LogFunctionsFailForBadLogs(t *testing.T) {
	e := impl.LogRecord{Command: "c"}
	for i, l := range badLogs() {
		appended, code := impl.AppendRecord(l, e)
		c := impl.Console{Room: impl.Room{Numbers: 2}, Log: l}
		behind, reply := impl.ExecuteCommand(c, "open")
		wrong := wrongOf(map[string]bool{
			"IsValidLog":       !impl.IsValidLog(l),
			"AppendRecord":     code == impl.LogInvalid && appended == l,
			"SyncLog":          zero1(impl.SyncLog(l)),
			"CrashLog of none": zero1(impl.CrashLog(l, 0, false)),
			"CrashLog":         zero1(impl.CrashLog(l, len(l.Pending), true)),
			"LogRecords":       zero1(impl.LogRecords(l)),
			"IsValidConsole":   !impl.IsValidConsole(c),
			"ExecuteCommand":   reply == "no" && behind == c,
			"RunScript":        zero1(impl.RunScript(c, "open")),
			"ReplayLog":        zero1(impl.ReplayLog(c.Room, l)),
		})
		if len(wrong) > 0 {
			t.Errorf("%v of the log %d: %.60q, %.60q, %d", wrong, i, l.Durable, l.Pending, l.Count)
		}
	}
}

// longTexts returns texts of all kinds, among them very long ones and such as begin like a log.
func longTexts() []string {
	text := textOf(manyRecords(12))
	return append(oddTexts(), text, text[:len(text)-1], text+text, strings.Repeat(text, 100), strings.Repeat("0 c@#1\n", 1<<12), strings.Repeat("0 ", 15000), strings.Repeat("@", 30000), strings.Repeat("#", 30001), strings.Repeat("\n", 1<<20), "0 c@r", "0 c@r#", "0 c@", "0 ", "@#", " @#\n", "0", "0 @#\n", "open", "yes 1", "start 12 2\nopen", strings.Repeat("open\n", 29))
}

func TestP13LogFunctionsReturnForAllTexts(t *testing.T) {
	c := impl.Console{Room: impl.Room{Numbers: 3, Most: 1}, Log: logOf(manyRecords(2), 1)}
	for _, text := range longTexts() {
		l, read, ok := impl.RecoverLog(text)
		if again, same, too := impl.RecoverLog(text); again != l || same != read || too != ok {
			t.Errorf("RecoverLog of %d bytes: %d and %d", len(text), read, same)
		}
		if ok != (len(text) <= 30000) || read > len(text) || l.Durable != text[:read] || l.Pending != "" || ok && !impl.IsValidLog(l) || !ok && l != (impl.Log{}) {
			t.Errorf("RecoverLog of %d bytes: %d records, %d bytes, %v", len(text), l.Count, read, ok)
		}
		for _, l := range []impl.Log{{Durable: text, Count: 1}, {Pending: text, Count: 1}, {Durable: text, Pending: text, Count: 2}, {Durable: text, Count: 12}, {Pending: text, Count: 12}} {
			if is := impl.IsValidLog(l); is != isLogBy(l) {
				t.Errorf("a log of %d and %d bytes is valid: %v", len(l.Durable), len(l.Pending), is)
			}
		}
		for _, e := range []impl.LogRecord{{Command: text}, {Command: "c", Reply: text}, {Command: text, Reply: text}} {
			_, encoded := impl.EncodeRecord(3, e)
			_, code := impl.AppendRecord(impl.Log{}, e)
			if want := isRecordBy(e); impl.IsValidRecord(e) != want || encoded != want || (code == impl.LogOK) != want {
				t.Errorf("a record of %d and %d bytes: %v, %d", len(e.Command), len(e.Reply), encoded, code)
			}
		}
		got, reply := impl.ExecuteCommand(c, text)
		if again, same := impl.ExecuteCommand(c, text); again != got || same != reply || reply == "" || (got == c) != (reply == "bad") {
			t.Errorf("a line of %d bytes is answered by %q and %q", len(text), reply, same)
		}
		replies, ok := impl.RunScript(c, text)
		if lines := strings.Count(text, "\n") + 1; ok != (len(text) <= 4000 && lines <= 30) || ok && len(replies) != lines || !ok && len(replies) > 0 {
			t.Errorf("a script of %d bytes has %d replies, %v", len(text), len(replies), ok)
		}
	}
}

// quizCalls calls each function of the chapter for a Room, Turns, a log, a record, a number and a text, and returns all results.
func quizCalls(r impl.Room, list []impl.Turn, l impl.Log, e impl.LogRecord, k int, text string) []any {
	var all []any
	keep := func(results ...any) { all = append(all, results) }
	s, ok := impl.StateOfRoom(r)
	keep(impl.IsRoom(r), s, ok)
	own, ok := impl.NewRoom(s)
	keep(own, ok)
	behind, many, ok := impl.DoTurns(r, list)
	keep(behind, many, ok)
	if len(list) > 0 {
		behind, ok = impl.DoTurn(r, list[0])
		keep(behind, ok)
	}
	line, ok := impl.EncodeRecord(k, e)
	keep(impl.IsValidRecord(e), line, ok)
	more, code := impl.AppendRecord(l, e)
	keep(impl.IsValidLog(l), more, code)
	synced, ok := impl.SyncLog(l)
	keep(synced, ok)
	kept, ok := impl.CrashLog(l, k, k%2 == 0)
	keep(kept, ok)
	got, read, ok := impl.RecoverLog(kept)
	keep(got, read, ok)
	records, ok := impl.LogRecords(l)
	keep(records, ok)
	fresh, ok := impl.NewConsole(r)
	keep(fresh, ok)
	c := impl.Console{Room: r, Log: l}
	next, reply := impl.ExecuteCommand(c, text)
	keep(impl.IsValidConsole(c), next, reply)
	replies, ok := impl.RunScript(c, text+"\nopen\n"+text)
	keep(replies, ok)
	same, ok := impl.ReplayLog(r, l)
	keep(same, ok)
	return all
}

func TestP13QuizFunctionsReturnTheSameAndKeepArguments(t *testing.T) {
	other := impl.Turn{Kind: impl.TurnYes, A: 77, B: 77}
	rooms, logs := badRooms()[:40], append(badLogs()[:40], impl.Log{}, logOf(manyRecords(60), 7), logOf(mostRecords(), 60))
	for i, s := range roomStates() {
		rooms = append(rooms, roomBy(s, []int{0, 1, 999, 1000}[i%4]))
		logs = append(logs, logOf(manyRecords(i%13), i%13/2))
	}
	lines, texts, records := oddLines(), longTexts(), someRecords()
	for i, r := range rooms {
		for j, list := range turnLists() {
			text := lines[(17*i+j)%len(lines)]
			if j%4 == 0 {
				text = texts[(i+j)%len(texts)]
			}
			l, e, k := logs[(i+5*j)%len(logs)], records[(31*i+j)%len(records)], (7*i+j)%70-2
			own := withRoomOf(list, other)
			first := quizCalls(r, own, l, e, k, text)
			if second := quizCalls(r, own, l, e, k, text); !reflect.DeepEqual(first, second) {
				t.Fatalf("%v, %v, %v: %v and %v", r, list, l, first, second)
			}
			if !isKeptOf(own, list, other) {
				t.Fatalf("%v became %v", list, own)
			}
		}
	}
	for _, s := range append(append(smallStates(), largeStates()...), badStates()...) {
		own := impl.State{Lies: withRoom(s.Lies), Most: s.Most}
		first, ok := impl.NewRoom(own)
		if second, too := impl.NewRoom(own); first != second || ok != too {
			t.Fatalf("NewRoom of %d numbers: %v and %v", len(s.Lies), first, second)
		}
		if !isKept(own.Lies, s.Lies) || own.Most != s.Most {
			t.Fatalf("NewRoom: %v became %v", s, own)
		}
	}
}

func TestP13ChangedQuizResultsChangeNothingElse(t *testing.T) {
	for _, r := range []impl.Room{{Numbers: 1}, {Lies: [12]int{0, 2, -1}, Numbers: 3, Most: 2, Count: 8}, {Numbers: 12, Most: 1}} {
		was := r
		if !isOwnList(func() ([]int, bool) { s, ok := impl.StateOfRoom(r); return s.Lies, ok }) || r != was {
			t.Errorf("StateOfRoom(%v): one result changed another one", r)
		}
		for _, text := range []string{"open", "state\nopen", "x\n\n\n"} {
			c := impl.Console{Room: r}
			if !isOwnListOf(func() ([]string, bool) { return impl.RunScript(c, text) }, "other") || c != (impl.Console{Room: was}) {
				t.Errorf("RunScript of %q: one result changed another one", text)
			}
		}
	}
	for _, many := range []int{1, 7, 60} {
		for _, durable := range []int{0, many / 2, many} {
			l := logOf(manyRecords(many), durable)
			if !isOwnListOf(func() ([]impl.LogRecord, bool) { return impl.LogRecords(l) }, impl.LogRecord{Command: "other"}) || l != logOf(manyRecords(many), durable) {
				t.Errorf("LogRecords of %d: one result changed another one", many)
			}
		}
	}
}

func TestP13ChangedQuizArgumentsChangeNoResult(t *testing.T) {
	s := impl.State{Lies: []int{0, 1, -1}, Most: 1}
	r, _ := impl.NewRoom(s)
	spoil(s.Lies)
	if r != (impl.Room{Lies: [12]int{0, 1, -1}, Numbers: 3, Most: 1}) {
		t.Errorf("a Room became %v", r)
	}
	list := []impl.Turn{{Kind: impl.TurnYes, A: 1}, {Kind: impl.TurnRule, A: 0}}
	end, many, _ := impl.DoTurns(r, list)
	spoilWith(list, impl.Turn{Kind: math.MaxInt})
	if end != (impl.Room{Lies: [12]int{-1, -1, -1}, Numbers: 3, Most: 1, Count: 2}) || many != 2 || r.Count != 0 {
		t.Errorf("a Room became %v, %d", end, many)
	}
	state, _ := impl.StateOfRoom(end)
	end.Lies[0] = 77
	if !slices.Equal(state.Lies, []int{-1, -1, -1}) {
		t.Errorf("a State became %v", state)
	}
}
