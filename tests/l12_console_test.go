package tests

import (
	"fmt"
	"regexp"
	"slices"
	"strconv"
	"strings"
	"testing"

	"loop.example/g01269/impl"
)

// listing, fraction and report are how the console tells what functions return, for the tests alone.
func listing(list []int, ok bool) (string, bool) {
	if len(list) == 0 {
		return "none", ok
	}
	return strings.Trim(fmt.Sprint(list), "[]"), ok
}

func fraction(f [2]int, ok bool) (string, bool) { return fmt.Sprintf("%d/%d", f[0], f[1]), ok }

func report(is bool, ok bool) (string, bool) {
	if is {
		return "yes", ok
	}
	return "no", ok
}

func number(n int, ok bool) (string, bool) { return fmt.Sprint(n), ok }

// entry is a row of the document's table of commands: how many arguments it has, and its Turn or its reply.
type entry struct {
	args  int
	kind  int
	reply func(s impl.State, a int, b int) (string, bool)
}

// commandTable is the document's table of commands.
func commandTable() map[string]entry {
	return map[string]entry{
		"yes":      {1, impl.TurnYes, nil},
		"no":       {1, impl.TurnNo, nil},
		"rule":     {1, impl.TurnRule, nil},
		"forgive":  {0, impl.TurnForgive, nil},
		"start":    {2, impl.TurnStart, nil},
		"open":     {0, 0, func(s impl.State, _ int, _ int) (string, bool) { return listing(openOf(s), true) }},
		"most":     {0, 0, func(s impl.State, _ int, _ int) (string, bool) { return number(s.Most, true) }},
		"state":    {0, 0, func(s impl.State, _ int, _ int) (string, bool) { return impl.StateText(s) }},
		"told":     {0, 0, func(s impl.State, _ int, _ int) (string, bool) { return number(impl.ToldNumber(s)) }},
		"counts":   {0, 0, func(s impl.State, _ int, _ int) (string, bool) { return listing(countsOf(s), true) }},
		"vain":     {1, 0, func(s impl.State, a int, _ int) (string, bool) { return report(impl.VainQuestion(s, a)) }},
		"numbers":  {1, 0, func(s impl.State, a int, _ int) (string, bool) { return listing(impl.NumbersOf(len(s.Lies), a)) }},
		"weight":   {1, 0, func(s impl.State, a int, _ int) (string, bool) { return number(impl.StateWeight(s, a)) }},
		"even":     {1, 0, func(s impl.State, a int, _ int) (string, bool) { return number(impl.EvenQuestion(s, a)) }},
		"bound":    {0, 0, func(s impl.State, _ int, _ int) (string, bool) { return number(impl.BoundOf(s)) }},
		"balanced": {2, 0, func(s impl.State, a int, b int) (string, bool) { return report(impl.IsBalanced(s, a, b)) }},
		"scheme": {0, 0, func(s impl.State, _ int, _ int) (string, bool) {
			return listing(impl.GreedyScheme(len(s.Lies), s.Most))
		}},
		"within": {2, 0, func(_ impl.State, a int, b int) (string, bool) {
			return fraction(impl.ChanceWithin(a, b, impl.Doubt{Num: 1, Den: 10}))
		}},
		"halving": {0, 0, func(s impl.State, _ int, _ int) (string, bool) {
			tree, _ := impl.HalvingTree(len(s.Lies))
			return fraction(impl.MeanQuestions(len(s.Lies), tree))
		}},
	}
}

// commandNames returns all commands, in order.
func commandNames() []string {
	var names []string
	for name := range commandTable() {
		names = append(names, name)
	}
	slices.Sort(names)
	return names
}

// argument is what ParseInt accepts.
var argument = regexp.MustCompile(`^(0|-?[1-9][0-9]{0,5})$`)

// repliedBy returns the Room behind a line and the reply to it by the document's table, for the tests alone.
func repliedBy(r impl.Room, line string) (impl.Room, string) {
	words := strings.Split(line, " ")
	row, known := commandTable()[words[0]]
	if !known || len(words) != row.args+1 {
		return r, "?"
	}
	args := [2]int{}
	for i, word := range words[1:] {
		if !argument.MatchString(word) {
			return r, "?"
		}
		args[i], _ = strconv.Atoi(word)
	}
	if row.kind != 0 {
		behind, can := turnedBy(r, impl.Turn{Kind: row.kind, A: args[0], B: args[1]})
		if !can {
			return r, "?"
		}
		told, _ := listing(openOf(stateIn(behind)), true)
		return behind, told
	}
	if told, ok := row.reply(stateIn(r), args[0], args[1]); ok {
		return r, told
	}
	return r, "?"
}

// executedBy returns the Console behind a line that is recorded, and the reply.
func executedBy(c impl.Console, line string) (impl.Console, string) {
	room, reply := repliedBy(c.Room, line)
	written := c.Log
	written.Pending += lineOf(c.Log.Count, impl.LogRecord{Command: line, Reply: reply})
	written.Count++
	return impl.Console{Room: room, Log: written}, reply
}

// isExecuted reports whether ExecuteCommand does what the document's table tells.
func isExecuted(t *testing.T, c impl.Console, line string) bool {
	want, told := executedBy(c, line)
	got, reply := impl.ExecuteCommand(c, line)
	if got != want || reply != told {
		t.Errorf("%q in %v: %q, not %q; behind it %v, not %v", line, c, reply, told, got, want)
	}
	return got == want && reply == told && impl.IsValidConsole(got)
}

// linesFor returns lines with the arguments that a command can have, at the bounds and beyond.
func linesFor(name string, n int) []string {
	row := commandTable()[name]
	if row.args == 0 {
		return []string{name}
	}
	var lines []string
	for _, a := range append(someQuestions(min(n, 3)), -1, n-1, n, twoTo(n)-1, twoTo(n), 10, 11, 12, 13, 30, 31, 999999, -999999) {
		if row.args == 1 {
			lines = append(lines, fmt.Sprint(name, " ", a))
			continue
		}
		for _, b := range []int{-1, 0, 1, 2, 3, 5, 12, 13, 30, 31} {
			lines = append(lines, fmt.Sprint(name, " ", a, " ", b))
		}
	}
	return lines
}

func TestP12CommandsReplyByTheTable(t *testing.T) {
	for i, s := range roomStates() {
		before := i % 4
		if i%40 == 0 {
			before = 59
		}
		c := impl.Console{Room: roomBy(s, []int{0, 1, 999, 1000}[i%4]), Log: logOf(manyRecords(before), before/2)}
		for _, name := range commandNames() {
			for _, line := range linesFor(name, len(s.Lies)) {
				if !isExecuted(t, c, line) {
					return
				}
			}
		}
	}
}

func TestP12KnownReplies(t *testing.T) {
	for _, c := range []struct{ state, line, want, behind string }{
		{"1:0000", "open", "0 1 2 3", ""}, {"1:-1-0", "open", "1 3", ""}, {"0:-", "open", "none", ""}, {"2:------------", "open", "none", ""}, {"0:000000000000", "open", "0 1 2 3 4 5 6 7 8 9 10 11", ""},
		{"1:0000", "yes 3", "0 1 2 3", "1:0011"}, {"1:0011", "yes 3", "0 1", "1:00--"}, {"1:0011", "no 15", "0 1", "1:11--"}, {"0:00", "yes 0", "none", "0:--"}, {"0:--", "no 3", "none", "0:--"}, {"0:00", "no 4", "?", ""}, {"0:00", "yes -1", "?", ""},
		{"2:012-", "rule 2", "0 1", "2:01--"}, {"2:012-", "rule 3", "?", ""}, {"2:012-", "rule 4", "?", ""}, {"2:012-", "rule -1", "?", ""}, {"0:0", "rule 0", "none", "0:-"},
		{"0:0-", "forgive", "0", "1:0-"}, {"1:-", "forgive", "none", "2:-"}, {"2:00", "forgive", "?", ""}, {"1:0", "forgive 0", "?", ""},
		{"2:--", "start 3 1", "0 1 2", "1:000"}, {"0:0", "start 12 2", "0 1 2 3 4 5 6 7 8 9 10 11", "2:000000000000"}, {"2:000000000000", "start 1 0", "0", "0:0"}, {"0:00", "start 0 0", "?", ""}, {"0:00", "start 13 0", "?", ""}, {"0:00", "start 3 3", "?", ""}, {"0:00", "start 3 -1", "?", ""}, {"0:00", "start 3", "?", ""},
		{"2:012-", "most", "2", ""}, {"0:-", "most", "0", ""}, {"2:012-", "state", "2:012-", ""}, {"0:------------", "state", "0:------------", ""},
		{"2:-2-", "told", "1", ""}, {"0:0", "told", "0", ""}, {"1:-----------1", "told", "11", ""}, {"1:00", "told", "?", ""}, {"1:--", "told", "?", ""},
		{"2:0120-", "counts", "2 1 1", ""}, {"0:--", "counts", "0", ""}, {"0:000000000000", "counts", "12", ""}, {"2:---", "counts", "0 0 0", ""},
		{"1:00-", "vain 1", "no", ""}, {"1:00-", "vain 3", "yes", ""}, {"1:00-", "vain 4", "yes", ""}, {"1:---", "vain 1", "yes", ""}, {"1:00-", "vain 8", "?", ""}, {"1:00-", "vain -1", "?", ""},
		{"0:000", "numbers 0", "none", ""}, {"0:000", "numbers 5", "0 2", ""}, {"0:---", "numbers 7", "0 1 2", ""}, {"0:000", "numbers 8", "?", ""}, {"0:000000000000", "numbers 4095", "0 1 2 3 4 5 6 7 8 9 10 11", ""},
		{"1:0000", "weight 5", "24", ""}, {"1:0011", "weight 0", "4", ""}, {"2:000000000000", "weight 30", "5592", ""}, {"1:--", "weight 30", "0", ""}, {"1:00", "weight 31", "?", ""}, {"1:00", "weight -1", "?", ""},
		{"1:0000", "even 5", "3", ""}, {"1:0000", "even 0", "?", ""}, {"1:----", "even 1", "0", ""}, {"0:0000", "even 30", "3", ""}, {"0:0000", "even 31", "?", ""},
		{"1:0000", "bound", "5", ""}, {"0:-", "bound", "0", ""}, {"0:0", "bound", "0", ""}, {"2:000000000000", "bound", "10", ""},
		{"1:0000", "balanced 3 5", "yes", ""}, {"1:0000", "balanced 1 5", "yes", ""}, {"1:0000", "balanced 0 5", "no", ""}, {"1:0000", "balanced 3 0", "?", ""}, {"1:0000", "balanced 16 5", "?", ""}, {"1:0000", "balanced 3 31", "?", ""}, {"1:----", "balanced 0 1", "yes", ""}, {"1:0000", "balanced 3", "?", ""},
		{"1:0000", "scheme", "6 10 10 12 12", ""}, {"0:0", "scheme", "none", ""}, {"2:-", "scheme", "none", ""}, {"0:---", "scheme", "2 4", ""},
		{"0:0", "within 0 0", "1/1", ""}, {"0:0", "within 2 1", "99/100", ""}, {"0:0", "within 12 0", "282429536481/1000000000000", ""}, {"0:0", "within 12 12", "1/1", ""}, {"0:0", "within 12 13", "?", ""}, {"0:0", "within 13 0", "?", ""}, {"0:0", "within 2 -1", "?", ""}, {"0:0", "within 2", "?", ""},
		{"0:0", "halving", "0/1", ""}, {"2:---", "halving", "5/3", ""}, {"0:000000000000", "halving", "11/3", ""}, {"0:0000", "halving", "2/1", ""},
	} {
		s, _ := impl.ParseState(c.state)
		r := roomBy(s, 7)
		console, ok := impl.NewConsole(r)
		behind, reply := impl.ExecuteCommand(console, c.line)
		if c.behind != "" {
			s, _ = impl.ParseState(c.behind)
			r = roomBy(s, 8)
		}
		want := impl.Console{Room: r, Log: logOf([]impl.LogRecord{{Command: c.line, Reply: c.want}}, 0)}
		if !ok || reply != c.want || behind != want {
			t.Errorf("%q at %s: %q, %v", c.line, c.state, reply, behind)
		}
	}
}

// oddLines returns lines with arguments that are malformed, missing and too many, with other spaces, and with commands that are not known.
func oddLines() []string {
	var lines []string
	for _, name := range commandNames() {
		for args := range 5 {
			lines = append(lines, name+strings.Repeat(" 1", args))
		}
		right := name + strings.Repeat(" 1", commandTable()[name].args)
		lines = append(lines, right+" ", " "+right, right+"  ", "  "+right, strings.ReplaceAll(right, " ", "  "), right+" x", right+" 0", right+"1", strings.ToUpper(right), "x"+right, right[1:], right+".", right+" "+name, name+" "+right)
		for _, bad := range []string{"", "01", "+1", "-0", "00", "-01", "1000000", "-1000000", "1.0", "1e0", "0x1", "x", "1x", "x1", "-", "--1", "1-", "1_0", "99999999999999999999", "A", "one"} {
			lines = append(lines, name+" "+bad, name+" "+bad+" 1", name+" 1 "+bad, name+" "+bad+" "+bad)
		}
	}
	return append(lines, " ", "  ", "?", "1", "1 1", "x", "turn 1 1 0", "answer 1", "A", "yes A", "start A B", "balanced A B", "yes\u00021", "opens", "ope", strings.Repeat(" ", 160), strings.Repeat("1", 160), strings.Repeat("1 ", 80), "open"+strings.Repeat(" ", 156))
}

func TestP12OddLinesAreAnsweredAsUnknown(t *testing.T) {
	for i, state := range []string{"1:0000", "2:01", "0:-0-", "1:---", "0:0"} {
		s, _ := impl.ParseState(state)
		c := impl.Console{Room: roomBy(s, 10*i), Log: logOf(manyRecords(i), i/2)}
		unknown := 0
		for _, line := range oddLines() {
			if !isRecordBy(impl.LogRecord{Command: line}) {
				continue
			}
			if !isExecuted(t, c, line) {
				return
			}
			if got, reply := impl.ExecuteCommand(c, line); reply == "?" && got.Room == c.Room {
				unknown++
			}
		}
		if unknown < len(oddLines())*3/4 {
			t.Errorf("at %s only %d of %d lines are unknown", state, unknown, len(oddLines()))
		}
	}
}

func TestP12RoomsWithTheMostTurnsMakeNoMore(t *testing.T) {
	for _, s := range roomStates() {
		c := impl.Console{Room: roomBy(s, 1000)}
		for _, line := range []string{"yes 1", "no 0", "rule 0", "forgive", "start 2 1"} {
			if got, reply := impl.ExecuteCommand(c, line); reply != "?" || got.Room != c.Room {
				t.Errorf("%q in %v: %q, %v", line, c.Room, reply, got.Room)
			}
		}
		if got, reply := impl.ExecuteCommand(c, "state"); reply == "?" || got.Room != c.Room {
			t.Errorf("the state of %v: %q, %v", c.Room, reply, got.Room)
		}
	}
}

// badConsoles returns what is no Console: with a Room or a log that is not valid, or with both.
func badConsoles() []impl.Console {
	good := impl.Room{Numbers: 3, Most: 1}
	all := []impl.Console{{}, {Room: impl.Room{Numbers: 3, Count: 1001}}, {Room: impl.Room{Numbers: 3, Count: -1}, Log: logOf(manyRecords(3), 2)}, {Room: impl.Room{Numbers: 3, Lies: [12]int{0, 0, 0, 1}}}}
	for i, l := range badLogs() {
		if i%7 == 0 {
			all = append(all, impl.Console{Room: good, Log: l}, impl.Console{Log: l})
		}
	}
	for _, s := range badStates() {
		if r, ok := roomIfFits(s); ok {
			all = append(all, impl.Console{Room: r}, impl.Console{Room: r, Log: logOf(manyRecords(60), 60)})
		}
	}
	return all
}

// roomIfFits returns the Room that would keep what is no State, if there is place for it.
func roomIfFits(s impl.State) (impl.Room, bool) {
	if len(s.Lies) > 12 {
		return impl.Room{}, false
	}
	return roomBy(s, 0), true
}

func TestP12LinesAreCheckedInOrder(t *testing.T) {
	good := impl.Room{Numbers: 3, Most: 1}
	full := impl.Console{Room: good, Log: logOf(manyRecords(60), 31)}
	wrong := []string{"", "@", "open@", "open#", "#", "open\n", "\n", "open\x1f", "open\x7f", "\x80", "\u00e9", strings.Repeat("x", 161), "open" + strings.Repeat(" ", 157), strings.Repeat("x", 1<<16)}
	lines := append([]string{"open", "yes 1", "x", strings.Repeat("x", 160)}, wrong...)
	for _, line := range lines {
		for i, c := range badConsoles() {
			if got, reply := impl.ExecuteCommand(c, line); reply != "no" || got != c {
				t.Fatalf("%.20q in the Console %d that is not valid: %q", line, i, reply)
			}
		}
		want := "full"
		if slices.Contains(wrong, line) {
			want = "bad"
			c := impl.Console{Room: good, Log: logOf(manyRecords(59), 3)}
			if got, reply := impl.ExecuteCommand(c, line); reply != "bad" || got != c {
				t.Errorf("%.20q: %q", line, reply)
			}
		}
		if got, reply := impl.ExecuteCommand(full, line); reply != want || got != full {
			t.Errorf("%.20q with a full log: %q", line, reply)
		}
	}
	last := impl.Console{Room: good, Log: logOf(manyRecords(59), 59)}
	if got, reply := impl.ExecuteCommand(last, "yes 1"); reply != "0 1 2" || got.Log.Count != 60 || got.Room.Count != 1 {
		t.Errorf("the last record: %q, %v", reply, got.Room)
	}
}

func TestP12ConsolesAreValid(t *testing.T) {
	for i, s := range append(smallStates(), largeStates()...) {
		r := roomBy(s, i%1001)
		c, ok := impl.NewConsole(r)
		if !ok || c != (impl.Console{Room: r}) || !impl.IsValidConsole(c) {
			t.Fatalf("NewConsole(%v) = %v, %v", r, c, ok)
		}
	}
	for many := range 61 {
		if c := (impl.Console{Room: impl.Room{Numbers: 1}, Log: logOf(manyRecords(many), many/2)}); !impl.IsValidConsole(c) {
			t.Errorf("a Console with %d records is not valid", many)
		}
	}
	for i, c := range badConsoles() {
		if impl.IsValidConsole(c) {
			t.Errorf("the Console %d is valid: %v", i, c)
		}
	}
}

// mixedLines returns lines of all kinds, by a fixed rule that mixes them: those that do something, and some that do not.
func mixedLines(many int, n int, start int) []string {
	var all []string
	for _, name := range commandNames() {
		good := linesFor(name, n)
		all = append(all, good[start%len(good)], good[(start+3)%len(good)], good[(5*start+1)%len(good)])
	}
	all = append(all, oddLines()[start%400], "yes 1", "no 1", "yes 2", "no 3", "open", "state")
	all = slices.DeleteFunc(all, func(line string) bool { return !isRecordBy(impl.LogRecord{Command: line}) })
	var lines []string
	x := start
	for range many {
		x = (x*1103 + 12345) % 1000003
		lines = append(lines, all[x%len(all)])
	}
	return lines
}

func TestP12ScriptsAreExecutedLineByLine(t *testing.T) {
	for i, s := range roomStates() {
		for _, many := range []int{1, 2, 7, 30} {
			before := i % 61
			c := impl.Console{Room: roomBy(s, i%1001), Log: logOf(manyRecords(before), before/3)}
			lines := mixedLines(many, len(s.Lies), 10*i+many)
			lines[many/2] = []string{lines[many/2], "", "#", "a@b", "\x00", strings.Repeat("x", 161)}[i%6]
			var want []string
			step := c
			for _, line := range lines {
				next, reply := impl.ExecuteCommand(step, line)
				step = next
				want = append(want, reply)
			}
			replies, ok := impl.RunScript(c, strings.Join(lines, "\n"))
			if !ok || !slices.Equal(replies, want) {
				t.Fatalf("RunScript of %q in %v = %q, %v, not %q", lines, c.Room, replies, ok, want)
			}
		}
	}
}

func TestP12KnownScripts(t *testing.T) {
	s, _ := impl.StartState(4, 1)
	fresh := impl.Console{Room: roomBy(s, 0)}
	full := impl.Console{Room: roomBy(s, 0), Log: logOf(manyRecords(58), 58)}
	for _, c := range []struct {
		c    impl.Console
		text string
		want []string
	}{
		{fresh, "", []string{"bad"}},
		{fresh, "\n", []string{"bad", "bad"}},
		{fresh, "open\n", []string{"0 1 2 3", "bad"}},
		{fresh, "yes 3\nno 12\nopen\nstate\nbound", []string{"0 1 2 3", "0 1", "0 1", "1:00--", "3"}},
		{fresh, "yes 3\r\nopen", []string{"bad", "0 1 2 3"}},
		{fresh, "start 2 0\nno 1\ntold\nyes 1\ntold\nrule 1", []string{"0 1", "1", "1", "none", "?", "?"}},
		{fresh, "forgive\nforgive\nmost", []string{"0 1 2 3", "?", "2"}},
		{full, "yes 3\nopen\nyes 3\nstate\n@\n", []string{"0 1 2 3", "0 1 2 3", "full", "full", "bad", "bad"}},
	} {
		if replies, ok := impl.RunScript(c.c, c.text); !ok || !slices.Equal(replies, c.want) {
			t.Errorf("RunScript of %q = %q, %v", c.text, replies, ok)
		}
	}
}

func TestP12ScriptsHaveBounds(t *testing.T) {
	c := impl.Console{Room: impl.Room{Numbers: 3, Most: 1}}
	for lines := 1; lines <= 33; lines++ {
		for _, line := range []string{"", "open", "yes 5"} {
			replies, ok := impl.RunScript(c, strings.TrimSuffix(strings.Repeat(line+"\n", lines), "\n"))
			if line == "" {
				replies, ok = impl.RunScript(c, strings.Repeat("\n", lines-1))
			}
			if ok != (lines <= 30) || ok && len(replies) != lines || !ok && len(replies) != 0 {
				t.Errorf("RunScript of %d lines: %d replies, %v", lines, len(replies), ok)
			}
		}
	}
	for _, size := range []int{3999, 4000, 4001, 1 << 16} {
		for _, text := range []string{strings.Repeat("x", size), "open\n" + strings.Repeat(" ", size-5), strings.Repeat(strings.Repeat("~", 150)+"\n", 26) + strings.Repeat("x", size-26*151)} {
			replies, ok := impl.RunScript(c, text)
			if ok != (size <= 4000) || ok && len(replies) != strings.Count(text, "\n")+1 || !ok && len(replies) != 0 {
				t.Errorf("RunScript of %d bytes: %d replies, %v", size, len(replies), ok)
			}
		}
	}
	for i, bad := range badConsoles() {
		if !zero1(impl.RunScript(bad, "open")) || !zero1(impl.RunScript(bad, "")) {
			t.Errorf("RunScript in the Console %d that is not valid", i)
		}
	}
}

// playedIn returns the Console behind lines that are executed in one that begins with NewConsole.
func playedIn(r impl.Room, lines []string) impl.Console {
	c, _ := impl.NewConsole(r)
	for _, line := range lines {
		c, _ = impl.ExecuteCommand(c, line)
	}
	return c
}

func TestP12ReplayingALogReproducesEveryReply(t *testing.T) {
	for i, s := range append(smallStates(), largeStates()...) {
		r := roomBy(s, []int{0, 1, 980, 1000}[i%4])
		many := []int{0, 1, 2, 10, 25}[i%5]
		if len(s.Lies) == 12 {
			many = 60
		}
		c := playedIn(r, mixedLines(many, len(s.Lies), 7*i+1))
		if n, ok := impl.ReplayLog(r, c.Log); !ok || n != many || c.Log.Count != many {
			t.Fatalf("ReplayLog of %d commands in %v = %d, %v", c.Log.Count, r, n, ok)
		}
		kept, _ := impl.SyncLog(c.Log)
		if n, ok := impl.ReplayLog(r, kept); !ok || n != many {
			t.Fatalf("ReplayLog of a durable log of %d commands = %d, %v", many, n, ok)
		}
		// The replies are those that were told, too.
		records, _ := impl.LogRecords(c.Log)
		room := r
		for _, e := range records {
			next, reply := repliedBy(room, e.Command)
			if reply != e.Reply {
				t.Fatalf("%q in %v has been answered by %q, not %q", e.Command, room, e.Reply, reply)
			}
			room = next
		}
		if room != c.Room {
			t.Fatalf("the Room is %v, not %v", c.Room, room)
		}
	}
}

func TestP12ReplayLogTellsTheFirstOtherReply(t *testing.T) {
	s, _ := impl.StartState(4, 1)
	r := roomBy(s, 0)
	for _, lines := range [][]string{{"open"}, {"yes 3", "no 1", "state", "x", "told"}, mixedLines(20, 4, 3), mixedLines(60, 4, 11)} {
		c := playedIn(r, lines)
		records, _ := impl.LogRecords(c.Log)
		for i, e := range records {
			for _, reply := range []string{"", "x", e.Reply + " ", e.Reply + "@", " " + e.Reply, strings.TrimSuffix(e.Reply, "1"), "??"} {
				if reply == e.Reply {
					continue
				}
				for _, also := range []int{i, len(records) - 1} {
					other := slices.Clone(records)
					other[also].Reply = "none of these"
					other[i].Reply = reply
					if n, ok := impl.ReplayLog(r, logOf(other, i)); !ok || n != i {
						t.Fatalf("ReplayLog with another reply at %d = %d, %v", i, n, ok)
					}
				}
			}
		}
	}
	c := playedIn(r, []string{"most", "open", "yes 3", "yes 3", "open"})
	for _, other := range []struct {
		state string
		want  int
	}{{"1:0000", 5}, {"2:0000", 0}, {"1:000", 1}, {"1:0001", 2}, {"1:0011", 2}, {"1:00--", 1}, {"1:1100", 5}, {"1:--00", 1}} {
		s, _ := impl.ParseState(other.state)
		if n, ok := impl.ReplayLog(roomBy(s, 0), c.Log); !ok || n != other.want {
			t.Errorf("ReplayLog from %s = %d, %v", other.state, n, ok)
		}
	}
	// Turns that are not possible any more.
	if n, ok := impl.ReplayLog(roomBy(s, 999), c.Log); !ok || n != 3 {
		t.Errorf("ReplayLog behind 999 Turns = %d, %v", n, ok)
	}
	if n, ok := impl.ReplayLog(r, impl.Log{}); !ok || n != 0 {
		t.Errorf("ReplayLog of nothing = %d, %v", n, ok)
	}
	if n, ok := impl.ReplayLog(r, logOf(mostRecords(), 60)); !ok || n != 0 {
		t.Errorf("ReplayLog of records that are no commands = %d, %v", n, ok)
	}
	unknown := slices.Repeat([]impl.LogRecord{{Command: strings.Repeat("c", 160), Reply: "?"}}, 60)
	if n, ok := impl.ReplayLog(r, logOf(unknown, 0)); !ok || n != 60 {
		t.Errorf("ReplayLog of unknown commands = %d, %v", n, ok)
	}
}

func TestP12ReplayLogFailsForOtherLogsAndRooms(t *testing.T) {
	good := impl.Room{Numbers: 3, Most: 1}
	for i, l := range badLogs() {
		if !zero1(impl.ReplayLog(good, l)) {
			t.Errorf("ReplayLog of the log %d that is not valid", i)
		}
	}
	for _, c := range badConsoles() {
		if !zero1(impl.ReplayLog(c.Room, c.Log)) {
			t.Errorf("ReplayLog in %v", c.Room)
		}
	}
	for _, count := range []int{-1, 1001} {
		if !zero1(impl.ReplayLog(impl.Room{Numbers: 3, Count: count}, impl.Log{})) {
			t.Errorf("ReplayLog behind %d Turns", count)
		}
	}
}
