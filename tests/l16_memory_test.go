package tests

import (
	"slices"
	"strings"
	"testing"
	"unsafe"

	"loop.example/g00277/impl"
)

// scripted is all that the functions of the chapter tell of one cluster.
type scripted struct {
	steps, runs []impl.ScriptResult
	text        impl.TextResult
}

// toldLines are done, say something, change nothing, have a code, or cannot be read.
func toldLines() []string {
	return append(eachCommand(), "", "  ", "wink", "beat 0\n", "take 999", "ask 1 1 1 delete 1", "run 121", "run 0", "keep 0", "take 1", "timeout 0")
}

func toldScripts() []string {
	return []string{"", "\n\n", "show", "answers\nshow\n", "wink", "take 999\nrun 999", "run 0", "keep 0\nkeep 0\ntake 0\n", "ask 0 1 1 create 1 2\nrun 3\ncrash 0\nsettle\n", "timeout 0\nbeat 0\nlose 0\nshow", strings.Repeat("\n", 61), strings.Repeat("x", 1201)}
}

func scriptedOf(c impl.Cluster) scripted {
	var s scripted
	for _, line := range toldLines() {
		s.steps = append(s.steps, impl.StepScript(c, line))
	}
	for _, text := range toldScripts() {
		s.runs = append(s.runs, impl.RunScript(c, text))
	}
	s.text = impl.ClusterText(c)
	return s
}

// answers are those that have a cluster.
func (s scripted) answers() []impl.ScriptResult {
	return slices.Concat(s.steps, s.runs)
}

func (s scripted) copied() scripted {
	copyAll := func(list []impl.ScriptResult) []impl.ScriptResult {
		list = slices.Clone(list)
		for i, r := range list {
			list[i].Cluster = copyCluster(r.Cluster)
		}
		return list
	}
	return scripted{steps: copyAll(s.steps), runs: copyAll(s.runs), text: s.text}
}

func (s scripted) same(other scripted) bool {
	return slices.EqualFunc(s.steps, other.steps, sameStep) && slices.EqualFunc(s.runs, other.runs, sameStep) && s.text == other.text
}

func (s scripted) scribble() {
	for _, r := range s.answers() {
		scribbleCluster(r.Cluster)
	}
}

func TestScriptsChangeNoArgument(t *testing.T) {
	codes := map[int64]int{}
	for c := range eachDriven {
		kept := keep(c)
		got := scriptedOf(c)
		kept.wantUnchanged(t, "all functions")
		if again := scriptedOf(c); !again.same(got) {
			t.Fatalf("%v: another answer at the same argument: %+v and %+v", c, got, again)
		}
		for _, r := range got.answers() {
			codes[r.Code]++
		}
	}
	if codes[impl.OK] < 3000 || codes[impl.ErrMany] < 500 || codes[impl.ErrRange] < 500 || codes[impl.ErrForm] < 500 || codes[impl.ErrText] < 300 || codes[impl.ErrState] < 300 {
		t.Errorf("codes %v", codes)
	}
}

func TestScriptsShareNoMemory(t *testing.T) {
	lists := 0
	for c := range eachDriven {
		s, again := scriptedOf(c), scriptedOf(c)
		values := []any{c}
		for _, r := range append(s.answers(), again.answers()...) {
			values = append(values, r)
		}
		lists += wantApart(t, "answers and the argument", values...)
	}
	if lists < 90000 {
		t.Errorf("%d lists", lists)
	}
}

// What is written into an answer is not in the argument nor in another answer, and what is written into the argument is in none.
func TestWhatIsWrittenIntoAScriptsClusterStaysThere(t *testing.T) {
	for c := range eachDriven {
		kept := keep(c)
		got, again := scriptedOf(c), scriptedOf(c)
		want := got.copied()
		got.scribble()
		kept.wantUnchanged(t, "the answers were written into")
		scribbleCluster(c)
		if !again.same(want) {
			t.Fatalf("what is written elsewhere is in the answer: %+v, want %+v", again, want)
		}
	}
}

// Lists that are pieces of one are no fault; an answer has each its own, also where the line changes nothing.
func TestScriptsOfListsThatShareMemory(t *testing.T) {
	c := sharingCluster()
	kept := keep(c)
	got := scriptedOf(c)
	if want := scriptedOf(copyCluster(c)); !got.same(want) {
		t.Errorf("got %+v, want %+v", got, want)
	}
	for _, r := range got.answers() {
		wantApart(t, "an answer", r)
	}
	kept.wantUnchanged(t, "lists that share memory")
	for _, line := range toldLines() {
		wantStep(t, c, line)
	}
	for _, text := range toldScripts() {
		wantRan(t, c, text)
	}
}

// Nil and an empty list are the same, in the argument and in the answer.
func TestScriptsOfEmptyLists(t *testing.T) {
	for size := int64(1); size <= 5; size++ {
		for _, c := range []impl.Cluster{impl.NewCluster(size).Cluster, apartCluster(size), evenCluster(size, 3, 0), evenCluster(size, 3, 2)} {
			full := copyCluster(c)
			full.Mails, full.Sealed = []impl.Mail{}, append([]impl.Entry{}, c.Sealed...)
			for i, n := range full.Nodes {
				n.Log, n.Oks, n.Asks, n.Doers = append([]impl.Entry{}, n.Log...), append([]int64{}, n.Oks...), append([]bool{}, n.Asks...), append([]impl.Doer{}, n.Doers...)
				full.Nodes[i] = n
			}
			if one, other := scriptedOf(c), scriptedOf(full); !one.same(other) {
				t.Errorf("%v: got %+v, and with empty lists %+v", c, one, other)
			}
		}
	}
	empty := impl.Cluster{Nodes: []impl.Replica{}, Mails: []impl.Mail{}, Sealed: []impl.Entry{}}
	wantStepCode(t, empty, "show", impl.ErrMany)
	wantScriptCode(t, empty, "show", impl.ErrMany)
	wantText(t, "empty lists", impl.ClusterText(empty), impl.ErrMany, "")
}

// A word is in memory of its own, so that it does not keep the line.
func TestWordsShareNoMemoryWithTheLine(t *testing.T) {
	line := strings.Clone("  ask 0 7 8 write 1 2  9 xyz\xff ")
	from := uintptr(unsafe.Pointer(unsafe.StringData(line)))
	one, other := impl.WordsOf(line).Words, impl.WordsOf(line).Words
	if len(one) != 9 || !slices.Equal(one, other) {
		t.Fatalf("got %q and %q", one, other)
	}
	for _, word := range one {
		if at := uintptr(unsafe.Pointer(unsafe.StringData(word))); at >= from && at < from+uintptr(len(line)) {
			t.Errorf("%q is a piece of the line", word)
		}
	}
	whole := strings.Clone("settle")
	if word := impl.WordsOf(whole).Words[0]; unsafe.StringData(word) == unsafe.StringData(whole) {
		t.Errorf("%q is the line", word)
	}
	wantApart(t, "words", impl.WordsOf(line), impl.WordsOf(line), one, other)
	for i := range one {
		one[i] = "-"
	}
	wantWords(t, line, other...)
}

// Operations of any numbers.
func TestOpTextOfAnyOperation(t *testing.T) {
	x := &dice{state: 1641}
	codes := map[int64]int{}
	for range 20000 {
		o := anyOp(x)
		for _, field := range []*int64{&o.Kind, &o.Vol, &o.At, &o.Value} {
			if x.upTo(6) == 0 {
				*field = append(badNumbers(0, 255), 0, 1, 6, 7, 15, 16, 99, 100)[x.upTo(14)]
			}
		}
		want := ""
		code := impl.OpFault(o)
		if code == impl.OK {
			want = opWords(o)
		}
		wantText(t, "any", impl.OpText(o), code, want)
		codes[code]++
	}
	if codes[impl.OK] < 5000 || codes[impl.ErrRange] < 3000 || codes[impl.ErrForm] < 3000 {
		t.Errorf("codes %v", codes)
	}
}
