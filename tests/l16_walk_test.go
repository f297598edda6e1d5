package tests

import (
	"fmt"
	"slices"
	"strings"
	"testing"

	"loop.example/g00277/impl"
)

// askingClusters have a first one, at a place of its own, that may be asked; some have one that is not first as well.
func askingClusters() []impl.Cluster {
	list := []impl.Cluster{impl.NewCluster(1).Cluster, impl.NewCluster(3).Cluster, toldCluster(), evenCluster(5, 4, 39), evenCluster(2, 1, 0), evenCluster(4, 198, 7)}
	return append(list, clusterWith(evenCluster(3, 2, 3), manyMails(119)...))
}

// wantAskedAs asks that the line comes to what AskAt comes to with just the entry.
func wantAskedAs(t *testing.T, c impl.Cluster, line string, node int64, e impl.Entry) int64 {
	t.Helper()
	asked := impl.AskAt(c, node, e)
	got := impl.StepScript(c, line)
	wantScript(t, line, got, okBehind(asked))
	if asked.Code == impl.OK {
		log := got.Cluster.Nodes[node].Log
		if last := log[len(log)-1]; last != e {
			t.Fatalf("%q: the last entry is %v, want %v", line, last, e)
		}
	}
	return asked.Code
}

// P17: an operation that is written as a line is asked as it is.
func TestAnOperationThatIsWrittenIsAskedAsItIs(t *testing.T) {
	x := &dice{state: 1631}
	ops := append(boundOps(), poolOps()...)
	for range 300 {
		ops = append(ops, anyOp(x))
	}
	codes, kinds := map[int64]int{}, map[int64]int{}
	for _, c := range askingClusters() {
		first := impl.LeaderOf(c).Value
		for _, o := range ops {
			if impl.OpFault(o) != impl.OK {
				continue
			}
			text := impl.OpText(o)
			wantText(t, "an operation", text, impl.OK, opWords(o))
			for _, e := range []impl.Entry{entryOf(1, 1, o), entryOf(99, 999, o), entryOf(1+x.upTo(99), 1+x.upTo(999), o)} {
				for _, node := range []int64{first, 0, int64(len(c.Nodes)) - 1, int64(len(c.Nodes))} {
					line := fmt.Sprintf("ask %d %d %d %s", node, e.Client, e.Seq, text.Text)
					code := wantAskedAs(t, c, line, node, e)
					codes[code]++
					if code == impl.OK {
						kinds[o.Kind]++
						wantScript(t, line, impl.RunScript(c, line+"\n"), impl.ScriptResult{Cluster: impl.AskAt(c, node, e).Cluster, Said: "ok\n"})
					}
				}
			}
		}
	}
	if codes[impl.OK] < 5000 || codes[impl.ErrState] < 3000 || codes[impl.ErrRange] < 3000 || len(kinds) != 6 {
		t.Errorf("codes %v, kinds %v", codes, kinds)
	}
	for kind, n := range kinds {
		if n < 100 {
			t.Errorf("the kind %d: %d", kind, n)
		}
	}
}

// All numbers that a line can tell, those of no operation, too: the entry has them as they are, and what its kind has not is 0.
func TestWhateverNumbersAreAsked(t *testing.T) {
	x := &dice{state: 1632}
	codes := map[int64]int{}
	numbers := []int64{0, 1, 2, 15, 16, 17, 98, 99, 100, 255, 256, 998, 999}
	any := func() int64 {
		if x.upTo(3) == 0 {
			return x.upTo(1000)
		}
		return numbers[x.upTo(int64(len(numbers)))]
	}
	list := askingClusters()
	for round := range 12000 {
		c := list[round%len(list)]
		node, e := impl.LeaderOf(c).Value, entryOf(1+x.upTo(99), 1+x.upTo(999), impl.Op{Kind: 1 + x.upTo(6), Vol: any()})
		if x.upTo(4) == 0 {
			e.Client, e.Seq = any(), any()
		}
		if x.upTo(6) == 0 {
			node = x.upTo(7)
		}
		b := allOpBounds()[e.Op.Kind-1]
		if b.hasAt {
			e.Op.At = any()
		}
		if b.hasValue {
			e.Op.Value = any()
		}
		line := fmt.Sprintf("ask %d %d %d %s", node, e.Client, e.Seq, opWords(e.Op))
		code := wantAskedAs(t, c, line, node, e)
		codes[code]++
		if fault := impl.EntryFault(e); fault == impl.ErrForm || node == impl.LeaderOf(c).Value && code != fault {
			t.Fatalf("%q: the code %d, and the entry has the fault %d", line, code, fault)
		}
	}
	if codes[impl.OK] < 1000 || codes[impl.ErrRange] < 5000 || codes[impl.ErrState] < 300 || codes[impl.ErrText] > 0 {
		t.Errorf("codes %v", codes)
	}
}

// lineOfAct is a line that has the act done.
func lineOfAct(a clusterAct) string {
	names := [manyActs]string{actDeliver: "take", actKeep: "keep", actLose: "lose", actAsk: "ask", actBeat: "beat", actTimeout: "timeout", actCrash: "crash"}
	if a.kind != actAsk {
		return fmt.Sprintf("%s %d", names[a.kind], a.at)
	}
	return fmt.Sprintf("ask %d %d %d %s", a.at, a.entry.Client, a.entry.Seq, opWords(a.entry.Op))
}

// written has a line in one of the ways in which it may stand.
func written(x *dice, line string) string {
	switch x.upTo(6) {
	case 0:
		return " " + line
	case 1:
		return line + strings.Repeat(" ", int(x.upTo(3)))
	case 2:
		return strings.Replace(line, " ", "  ", 1)
	case 3:
		words := strings.Fields(line)
		if last := len(words) - 1; last >= 0 && words[last] < "99" && len(words[last]) < 3 {
			words[last] = "0" + words[last]
		}
		return strings.Join(words, " ")
	}
	return line
}

// otherLine is none of an act: it lets several things happen or nothing, or cannot be done or be read.
func otherLine(x *dice) string {
	switch x.upTo(12) {
	case 0:
		return ""
	case 1:
		return strings.Repeat(" ", int(1+x.upTo(4)))
	case 2, 9, 10:
		return "answers"
	case 3:
		return "show"
	case 4, 11:
		return "settle"
	case 5:
		return fmt.Sprintf("run %d", x.upTo(5))
	case 6:
		return []string{"wink", "take", "ask 0 1 1 create 1", "beat 0 0", "take 1000", "show\t", "settle\r", "crash -1", "\xff"}[x.upTo(9)]
	case 7:
		return []string{"take 120", "keep 999", "lose 500", "beat 5", "crash 77", "timeout 9", "run 121", "ask 9 1 1 delete 1"}[x.upTo(8)]
	}
	return fmt.Sprintf("ask %d %d %d %s", x.upTo(6), x.upTo(101), x.upTo(3), opWords(anyOp(x)))
}

// anyScript has lines of which most can be done where the lines ahead of them were: as many as there are at most, or fewer.
func anyScript(x *dice, c impl.Cluster) string {
	mixes := walkMixes(int64(len(c.Nodes)))
	mix := mixes[x.upTo(int64(len(mixes)))]
	most := []int64{3, 10, 30, 60, 60}[x.upTo(5)]
	text := ""
	for range most {
		line := written(x, otherLine(x))
		if x.upTo(4) > 0 {
			a := mix.next(x, c)
			if x.upTo(3) > 0 {
				a.entry.Op = busyOp(x)
			}
			line = written(x, lineOfAct(a))
		}
		if len(text)+len(line)+1 > 1200 {
			break
		}
		text += line + "\n"
		if then := stepIn(c, line); then.Code == impl.OK {
			c = then.Cluster
		}
	}
	if x.upTo(2) == 0 {
		text = strings.TrimSuffix(text, "\n")
	}
	return text
}

// cutSeen is what the scripts that were cut had.
type cutSeen struct {
	cuts, most, open int
	said             map[string]int
}

// cut asks that the script does in two parts what it does in one, wherever behind a line feed it is cut.
func (s *cutSeen) cut(t *testing.T, c impl.Cluster, text string) {
	t.Helper()
	whole := wantRan(t, c, text)
	for at := range text {
		if text[at] != '\n' {
			continue
		}
		first := impl.RunScript(c, text[:at+1])
		rest := impl.RunScript(first.Cluster, text[at+1:])
		if first.Code != impl.OK || rest.Code != impl.OK || first.Said+rest.Said != whole.Said || !sameCluster(rest.Cluster, whole.Cluster) {
			t.Fatalf("%q and %q come to %v and %v, and together to %v", text[:at+1], text[at+1:], first, rest, whole)
		}
		s.cuts++
	}
	if len(linesIn(text)) == 60 {
		s.most++
	}
	if !strings.HasSuffix(text, "\n") {
		s.open++
	}
	for _, line := range linesIn(whole.Said) {
		s.said[strings.Fields(line)[0]]++
		if line[0] == '!' {
			s.said[line]++
		}
	}
}

// P17: a script that is cut behind a line feed does in two parts what it does in one.
func TestScriptsThatAreCut(t *testing.T) {
	x := &dice{state: 1633}
	seen := &cutSeen{said: map[string]int{}}
	for round := range int64(240) {
		c := impl.NewCluster(1 + round%5).Cluster
		switch x.upTo(4) {
		case 0:
			c = likelyCluster(x, 1+round%5)
		case 1:
			c = madeCluster(x, 1+round%5)
		case 2:
			c = impl.RunScript(c, anyScript(x, c)).Cluster
		}
		seen.cut(t, c, anyScript(x, c))
	}
	for _, text := range []string{"", "\n", "\n\n", "show", "show\n", "\nshow", "beat 0\n\nbeat 0", strings.Repeat("\n", 60), strings.Repeat("beat 0\n", 60), strings.Repeat("run 1\n", 59) + "show", strings.Repeat("wink\nshow\n", 30)} {
		for _, c := range []impl.Cluster{impl.NewCluster(1).Cluster, toldCluster(), apartCluster(4), lateCluster(7, false)} {
			seen.cut(t, c, text)
		}
	}
	if seen.cuts < 5000 || seen.most < 60 || seen.open < 80 {
		t.Errorf("%d cuts, %d of the most lines, %d with a last line that no line feed ends", seen.cuts, seen.most, seen.open)
	}
	for _, word := range []string{"ok", "vol", "node", "mails", "! 3", "! 5", "! 10"} {
		if seen.said[word] < 100 {
			t.Errorf("said %v", seen.said)
		}
	}
}

// In three parts and more, down to a script a line.
func TestScriptsThatAreCutOften(t *testing.T) {
	x := &dice{state: 1634}
	for round := range int64(150) {
		c := impl.NewCluster(1 + round%5).Cluster
		for range 3 {
			text := anyScript(x, c)
			whole := impl.RunScript(c, text)
			now, said := c, ""
			for _, line := range linesIn(text) {
				part := impl.RunScript(now, line+"\n")
				now, said = part.Cluster, said+part.Said
			}
			wantScript(t, "a script a line", impl.ScriptResult{Cluster: now, Said: said}, whole)
			now, said = c, ""
			for rest := text; rest != ""; {
				at := len(rest)
				if ends := strings.Count(rest, "\n"); ends > 0 {
					at = 0
					for range 1 + x.upTo(int64(ends)) {
						at += strings.Index(rest[at:], "\n") + 1
					}
				}
				part := impl.RunScript(now, rest[:at])
				now, said, rest = part.Cluster, said+part.Said, rest[at:]
			}
			wantScript(t, "several parts", impl.ScriptResult{Cluster: now, Said: said}, whole)
			c = whole.Cluster
		}
	}
}

// lineWalk is a cluster that came of a new one by lines alone.
type lineWalk struct {
	clusterWalk
	said map[string]int
}

// tell has one line told: behind it nothing that was agreed is less. One with a code changes nothing.
func (w *lineWalk) tell(t *testing.T, line string) {
	t.Helper()
	was := w.cluster
	got := wantStep(t, was, line)
	if got.Code != impl.OK {
		w.said[fmt.Sprint(got.Code)]++
		return
	}
	w.said[strings.Fields(line + " -")[0]]++
	w.cluster = got.Cluster
	for _, n := range w.cluster.Nodes {
		w.greatest = max(w.greatest, n.Commit)
	}
	w.greatest = max(w.greatest, int64(len(w.cluster.Sealed)))
	w.nothingIsLess(t, was)
	if !impl.SealedRight(w.cluster) || !impl.LogsMatch(w.cluster) {
		t.Fatalf("%v became %v", was, w.cluster)
	}
}

// P12, of what lines do: from a new cluster on, each line is held against the call that it stands for.
func TestLineWalk(t *testing.T) {
	x := &dice{state: 1635}
	for size := int64(1); size <= 5; size++ {
		for _, mix := range walkMixes(size) {
			w := &lineWalk{said: map[string]int{}}
			for range 4 {
				w.clusterWalk = clusterWalk{cluster: impl.NewCluster(size).Cluster}
				for range 400 {
					line := lineOfAct(mix.next(x, w.cluster))
					if x.upTo(8) == 0 {
						line = otherLine(x)
					}
					w.tell(t, written(x, line))
				}
			}
			for _, word := range []string{"ask", "beat", "run", "settle", "answers", "show", "-", "3", "5"} {
				if w.said[word] < 3 {
					t.Errorf("%s, of %d nodes: %v", mix.name, size, w.said)
				}
			}
			if size > 1 && (w.said["take"] < 50 || w.said["10"] < 3 || w.said["keep"]+w.said["lose"] < 10) {
				t.Errorf("%s, of %d nodes: %v", mix.name, size, w.said)
			}
		}
	}
}

// linesOf are acts as lines, put together to as few scripts as there may be.
func linesOf(lines []string) []string {
	scripts := []string{""}
	for _, line := range lines {
		last := len(scripts) - 1
		if len(scripts[last])+len(line)+1 > 1200 || len(linesIn(scripts[last])) == 60 {
			scripts = append(scripts, "")
			last++
		}
		scripts[last] += line + "\n"
	}
	return scripts
}

// P16, of what scripts come to: a cluster that came of a new one by at most 46 acts comes to be even, and answers what was agreed.
func TestScriptsOfFewActsSettle(t *testing.T) {
	x := &dice{state: 1636}
	scripts, settled, answered := 0, 0, 0
	for round := range int64(150) {
		size := 1 + round%5
		mixes := fewActMixes(size)
		mix := mixes[x.upTo(int64(len(mixes)))]
		c, lines := impl.NewCluster(size).Cluster, []string(nil)
		for range mostActs {
			line := lineOfAct(mix.next(x, c))
			lines = append(lines, line)
			if then := stepIn(c, line); then.Code == impl.OK {
				c = then.Cluster
			}
		}
		now := impl.NewCluster(size).Cluster
		for _, text := range linesOf(lines) {
			now = wantRan(t, now, text).Cluster
			scripts++
		}
		wantScript(t, "all acts", impl.ScriptResult{Cluster: now}, impl.ScriptResult{Cluster: c})
		took := impl.SettleCluster(c)
		got := wantRan(t, now, "settle\nanswers\nshow\n")
		wantEven(t, "settled", got.Cluster, true)
		wantScript(t, "settled", impl.ScriptResult{Cluster: got.Cluster}, impl.ScriptResult{Cluster: took.Cluster})
		wantSaid(t, now, fmt.Sprintf("run %d\nsettle", took.Rounds), took.Cluster, "ok\nok\n")
		first := impl.LeaderOf(took.Cluster).Value
		asked := fmt.Sprintf("ask %d 99 999 create 77 5\nrun 4\nanswers\n", first)
		told := wantRan(t, took.Cluster, asked)
		if took.Rounds > 0 {
			settled++
		}
		if strings.Contains(told.Said, "vol 77 5\n") {
			answered++
		}
		if e := entryOf(99, 999, opOf(impl.OpCreate, 77, 0, 5)); told.Said[0] == 'o' && !slices.Contains(told.Cluster.Sealed, e) {
			t.Fatalf("%v was asked, and %v is sealed", e, told.Cluster.Sealed)
		}
	}
	if scripts < 150 || settled < 90 || answered < 100 {
		t.Errorf("%d scripts, %d took rounds, %d answered", scripts, settled, answered)
	}
}
