package tests

import (
	"fmt"
	"slices"
	"strings"
	"testing"

	"loop.example/g00277/impl"
)

func wantWords(t *testing.T, line string, want ...string) {
	t.Helper()
	if got := impl.WordsOf(line); got.Code != impl.OK || !slices.Equal(got.Words, want) {
		t.Fatalf("WordsOf(%q): got %d, %q, want %q", line, got.Code, got.Words, want)
	}
}

// wordsIn goes byte by byte, whatever the bytes are.
func wordsIn(line string) []string {
	var words []string
	from := 0
	for i := range len(line) + 1 {
		if i < len(line) && line[i] != 32 {
			continue
		}
		if i > from {
			words = append(words, line[from:i])
		}
		from = i + 1
	}
	return words
}

func TestWordsByHand(t *testing.T) {
	wantWords(t, "")
	wantWords(t, " ")
	wantWords(t, "       ")
	wantWords(t, "a", "a")
	wantWords(t, "take 3", "take", "3")
	wantWords(t, " a  b ", "a", "b")
	wantWords(t, "    a", "a")
	wantWords(t, "a    ", "a")
	wantWords(t, "b a  a   b", "b", "a", "a", "b")
	wantWords(t, "a\tb c\nd \r e", "a\tb", "c\nd", "\r", "e")
	wantWords(t, "\n", "\n")
	wantWords(t, "take 3\n", "take", "3\n")
	wantWords(t, " \x00 \xff\xfe  \x80", "\x00", "\xff\xfe", "\x80")
	wantWords(t, "ä ö\u00a0ü \u2003 \u3000", "ä", "ö\u00a0ü", "\u2003", "\u3000")
	wantWords(t, "\xe3 \x80", "\xe3", "\x80")
	wantWords(t, "ask 0 1 1 write 1 2 9", "ask", "0", "1", "1", "write", "1", "2", "9")
	wantWords(t, "'a b' \"c d\" a\\ b", "'a", "b'", "\"c", "d\"", "a\\", "b")
}

// Just the blank parts words, wherever the byte stands.
func TestEachByteInALine(t *testing.T) {
	for n := range 256 {
		b := string([]byte{byte(n)})
		if n == 32 {
			wantWords(t, "a"+b+"b", "a", "b")
			continue
		}
		wantWords(t, b, b)
		wantWords(t, "a"+b+"b", "a"+b+"b")
		wantWords(t, " "+b+" "+b+b+"  a"+b, b, b+b, "a"+b)
		for _, other := range []string{"\x80", "\xc2", "\xe2\x80", "\xff", "\n"} {
			wantWords(t, b+other+" "+other+b, b+other, other+b)
		}
	}
}

// anyText has bytes of all kinds, blanks and line feeds often among them.
func anyText(x *dice, most int64) string {
	text := make([]byte, x.upTo(most+1))
	kind := x.upTo(3)
	for i := range text {
		switch {
		case x.upTo(4) == 0:
			text[i] = " \n \t0N"[x.upTo(6)]
		case kind == 0:
			text[i] = byte(x.upTo(256))
		case kind == 1:
			text[i] = byte(128 + x.upTo(128))
		default:
			text[i] = "takesolrunbdicw0123456789"[x.upTo(25)]
		}
	}
	return string(text)
}

func TestWordsOfAnyText(t *testing.T) {
	x := &dice{state: 1601}
	many := 0
	for range 20000 {
		text := anyText(x, 40)
		words := wordsIn(text)
		wantWords(t, text, words...)
		wantWords(t, strings.Join(words, " "), words...)
		if len(words) > 3 {
			many++
		}
	}
	for _, n := range []int{1, 1000, 1200, 1201, 300000} {
		wantWords(t, strings.Repeat(" ", n))
		wantWords(t, strings.Repeat("a", n), strings.Repeat("a", n))
		wantWords(t, strings.Repeat("ab  ", n), slices.Repeat([]string{"ab"}, n)...)
	}
	if many < 3000 {
		t.Errorf("%d texts of more than three words", many)
	}
}

// opWords are those of one operation, by its kind.
func opWords(o impl.Op) string {
	switch o.Kind {
	case impl.OpCreate:
		return fmt.Sprintf("create %d %d", o.Vol, o.Value)
	case impl.OpWrite:
		return fmt.Sprintf("write %d %d %d", o.Vol, o.At, o.Value)
	case impl.OpDiscard:
		return fmt.Sprintf("discard %d %d", o.Vol, o.At)
	case impl.OpRead:
		return fmt.Sprintf("read %d %d", o.Vol, o.At)
	case impl.OpSnap:
		return fmt.Sprintf("snap %d %d", o.Vol, o.Value)
	}
	return fmt.Sprintf("delete %d", o.Vol)
}

func TestOpTextByHand(t *testing.T) {
	wantText(t, "create", impl.OpText(opOf(impl.OpCreate, 1, 0, 3)), impl.OK, "create 1 3")
	wantText(t, "write", impl.OpText(opOf(impl.OpWrite, 1, 2, 9)), impl.OK, "write 1 2 9")
	wantText(t, "write at 0, a 0", impl.OpText(opOf(impl.OpWrite, 7, 0, 0)), impl.OK, "write 7 0 0")
	wantText(t, "the greatest write", impl.OpText(opOf(impl.OpWrite, 99, 15, 255)), impl.OK, "write 99 15 255")
	wantText(t, "discard", impl.OpText(opOf(impl.OpDiscard, 10, 11, 0)), impl.OK, "discard 10 11")
	wantText(t, "read", impl.OpText(opOf(impl.OpRead, 3, 0, 0)), impl.OK, "read 3 0")
	wantText(t, "snap", impl.OpText(opOf(impl.OpSnap, 98, 0, 99)), impl.OK, "snap 98 99")
	wantText(t, "delete", impl.OpText(opOf(impl.OpDelete, 40, 0, 0)), impl.OK, "delete 40")
}

// All operations that there are but for those writes of which neither field is at an end.
func TestOpTextOfEachOperation(t *testing.T) {
	texts := map[string]bool{}
	for _, b := range allOpBounds() {
		for vol := int64(1); vol <= 99; vol++ {
			for at := b.atLow; at <= b.atHigh; at++ {
				for value := b.valLow; value <= b.valHigh; value++ {
					if at > 0 && at < 15 && value > 0 && value < 255 && vol > 1 && vol < 99 {
						continue
					}
					o := opOf(b.kind, vol, at, value)
					wantText(t, "an operation", impl.OpText(o), impl.OK, opWords(o))
					texts[impl.OpText(o).Text] = true
				}
			}
		}
	}
	if len(texts) < 70000 {
		t.Errorf("%d texts", len(texts))
	}
}

func TestOpTextTellsTheOpFault(t *testing.T) {
	codes := map[int64]int{}
	for _, c := range faultyOps() {
		wantText(t, c.name, impl.OpText(c.entry.Op), c.code, "")
		codes[c.code]++
	}
	for _, o := range wrongOps() {
		wantText(t, "wrong", impl.OpText(o), impl.OpFault(o), "")
	}
	wantText(t, "nothing", impl.OpText(impl.Op{}), impl.ErrForm, "")
	wantText(t, "a create with an At", impl.OpText(opOf(impl.OpCreate, 1, 2, 3)), impl.ErrForm, "")
	wantText(t, "a delete with a Value", impl.OpText(opOf(impl.OpDelete, 1, 0, 3)), impl.ErrForm, "")
	wantText(t, "the volume 100", impl.OpText(opOf(impl.OpDelete, 100, 0, 0)), impl.ErrRange, "")
	if codes[impl.ErrForm] < 30 || codes[impl.ErrRange] < 30 {
		t.Errorf("codes %v", codes)
	}
}

// shownOf is what is shown of a cluster.
func shownOf(c impl.Cluster) string {
	text := ""
	for _, n := range c.Nodes {
		state := map[bool]string{true: "normal", false: "changing"}[n.Normal]
		text += fmt.Sprintf("node %d %d %s %d %d\n", n.Id, n.View, state, len(n.Log), n.Commit)
	}
	return text + fmt.Sprintf("mails %d %d\n", len(c.Mails), len(c.Sealed))
}

func TestClusterTextByHand(t *testing.T) {
	c := impl.NewCluster(1).Cluster
	wantText(t, "one new node", impl.ClusterText(c), impl.OK, "node 0 0 normal 0 0\nmails 0 0\n")
	c = impl.AskAt(impl.NewCluster(3).Cluster, 0, writeEntry(7)).Cluster
	wantText(t, "asked", impl.ClusterText(c), impl.OK, "node 0 0 normal 1 0\nnode 1 0 normal 0 0\nnode 2 0 normal 0 0\nmails 2 0\n")
	c = impl.DeliverMail(impl.DeliverMail(c, 0, false).Cluster, 1, false).Cluster
	wantText(t, "agreed", impl.ClusterText(c), impl.OK, "node 0 0 normal 1 1\nnode 1 0 normal 1 0\nnode 2 0 normal 0 0\nmails 1 1\n")
	c = impl.TimeoutAt(c, 1).Cluster
	wantText(t, "the second one asks for view 1", impl.ClusterText(c), impl.OK, "node 0 0 normal 1 1\nnode 1 1 changing 1 0\nnode 2 0 normal 0 0\nmails 3 1\n")
	c = withSealed(clusterWith(withNode(normalCluster(2, 200, 40), changingNode(1, 2, 200, 17, 12)), manyMails(120)...), logUpTo(39))
	c.Nodes[0].Commit = 11
	wantText(t, "the most", impl.ClusterText(c), impl.OK, "node 0 200 normal 40 11\nnode 1 200 changing 12 0\nmails 120 39\n")
}

func TestClusterText(t *testing.T) {
	x := &dice{state: 1602}
	list := slices.Concat(handMadeClusters(), steadyClusters())
	for round := range int64(300) {
		list = append(list, likelyCluster(x, 1+round%5), madeCluster(x, 1+round%5))
	}
	states := map[string]int{}
	for _, c := range list {
		wantText(t, "a cluster", impl.ClusterText(c), impl.OK, shownOf(c))
		for _, n := range c.Nodes {
			states[fmt.Sprint(n.Normal)]++
		}
	}
	if states["true"] < 300 || states["false"] < 300 {
		t.Errorf("nodes that are normal or not: %v", states)
	}
}

func TestClusterTextTellsTheClusterFault(t *testing.T) {
	for _, b := range clusterBreaks() {
		wantText(t, b.name, impl.ClusterText(brokenBy(b)), b.code, "")
	}
	wantText(t, "nothing", impl.ClusterText(impl.Cluster{}), impl.ErrMany, "")
}
