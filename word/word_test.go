package word_test

import (
	"fmt"
	"slices"
	"strings"
	"testing"

	"skylight/word"
)

// row is a row of a line with these words.
func row(line, end int, words ...word.Token) word.Row {
	for i := range words {
		words[i].Line = line
	}
	return word.Row{Line: line, End: end, Words: words}
}

// at is a word at a position of a line that row tells.
func at(col int, text string) word.Token { return word.Token{Text: text, Col: col} }

// sameRow tells whether two rows are equal.
func sameRow(a, b word.Row) bool {
	return a.Line == b.Line && a.End == b.End && slices.Equal(a.Words, b.Words)
}

// shown is how rows are told: at most that much of them, and no bytes that are no runes.
func shown(rows []word.Row) string { return fmt.Sprintf("%.200q", fmt.Sprint(rows)) }

// rowsCase is a text, and what its rows must be.
type rowsCase struct {
	text string
	want []word.Row
}

// checkRows fails if the rows of a text are others.
func checkRows(t *testing.T, cases []rowsCase) {
	t.Helper()
	for _, c := range cases {
		if got := word.Rows(c.text); !slices.EqualFunc(got, c.want, sameRow) {
			t.Errorf("the rows of %.200q: %s, want %s", c.text, shown(got), shown(c.want))
		}
	}
}

// TestRowsExample: P18.1, the chapter's example.
func TestRowsExample(t *testing.T) {
	checkRows(t, []rowsCase{
		{"a  b#c #d", []word.Row{row(1, 7, at(1, "a"), at(4, "b#c"))}},
	})
}

// TestRowsNone: P18.1, texts without words have no rows.
func TestRowsNone(t *testing.T) {
	checkRows(t, []rowsCase{
		{"", nil},
		{" ", nil}, {"\t", nil}, {"   ", nil}, {" \t \t", nil},
		{"\n", nil}, {"\n\n\n", nil},
		{" \n\t\n \t", nil}, {"\n \n", nil},
		{"#", nil}, {"#a b c", nil}, {"# a b c\n", nil}, {" \t#a\n\n##\n", nil},
	})
}

// TestRowsLines: P18.1, lines end with a byte 10 or at the end of the text; those without words are counted, and are no rows.
func TestRowsLines(t *testing.T) {
	checkRows(t, []rowsCase{
		{"a", []word.Row{row(1, 2, at(1, "a"))}},
		{"a\n", []word.Row{row(1, 2, at(1, "a"))}},
		{"a\n\n", []word.Row{row(1, 2, at(1, "a"))}},
		{"\na", []word.Row{row(2, 2, at(1, "a"))}},
		{"a\nb", []word.Row{row(1, 2, at(1, "a")), row(2, 2, at(1, "b"))}},
		{"a\nb\n", []word.Row{row(1, 2, at(1, "a")), row(2, 2, at(1, "b"))}},
		{"a\n\nb", []word.Row{row(1, 2, at(1, "a")), row(3, 2, at(1, "b"))}},
		{"\n \n\t\n#\na b\n\n  \n# c\n\n d\n", []word.Row{
			row(5, 4, at(1, "a"), at(3, "b")),
			row(10, 3, at(2, "d")),
		}},
		{strings.Repeat("\n", 1000) + "last", []word.Row{row(1001, 5, at(1, "last"))}},
	})
}

// TestRowsBlanks: P18.1, bytes 32 and 9 ahead of words, between them and behind them; a row ends behind its last word.
func TestRowsBlanks(t *testing.T) {
	checkRows(t, []rowsCase{
		{" a", []word.Row{row(1, 3, at(2, "a"))}},
		{"\ta", []word.Row{row(1, 3, at(2, "a"))}},
		{"a ", []word.Row{row(1, 2, at(1, "a"))}},
		{"a\t", []word.Row{row(1, 2, at(1, "a"))}},
		{"a   \t\n", []word.Row{row(1, 2, at(1, "a"))}},
		{"ab cd", []word.Row{row(1, 6, at(1, "ab"), at(4, "cd"))}},
		{"ab\tcd", []word.Row{row(1, 6, at(1, "ab"), at(4, "cd"))}},
		{"ab\t \tcd", []word.Row{row(1, 8, at(1, "ab"), at(6, "cd"))}},
		{" \t ab  cd\t\te \n", []word.Row{row(1, 13, at(4, "ab"), at(8, "cd"), at(12, "e"))}},
		{" a \n b \n", []word.Row{row(1, 3, at(2, "a")), row(2, 3, at(2, "b"))}},
		{strings.Repeat(" ", 500) + "x" + strings.Repeat("\t", 500) + "yz", []word.Row{row(1, 1004, at(501, "x"), at(1002, "yz"))}},
	})
}

// TestRowsNoBlanks: P18.1, other bytes and runes that look like blanks or like ends of lines are bytes of words.
func TestRowsNoBlanks(t *testing.T) {
	for _, other := range []string{
		"\r", "\v", "\f", "\x00", "\x1f", "!", "\x7f", "\b", "\x0e",
		"\u0085", "\u00a0", "\u2003", "\u2028", "\u2029", "\u3000", "\ufeff", "\u200b", // blanks and ends of lines of other kinds
		"\u0109", "\u010a", "\u0120", "\u0123", "\u2009", "\u200a", "\u2020", "\u2023", "\U00010020", "\U0001000a", // whose numbers have the last byte 9, 10, 32 or 35
		"\x89", "\x8a", "\xa0", "\xa3", "\xc2", "\xff", "\xe2\x80", "\xc0\xa0", "\xc0\x8a", "\xe0\x80\xa0", // no runes
	} {
		end := 2 + len(other) + 1
		checkRows(t, []rowsCase{
			{other, []word.Row{row(1, 1+len(other), at(1, other))}},
			{"a" + other + "b", []word.Row{row(1, end, at(1, "a"+other+"b"))}},
			{other + " " + other, []word.Row{row(1, 2*len(other)+2, at(1, other), at(len(other)+2, other))}},
			{"a" + other + "\n" + other + "\n", []word.Row{row(1, 2+len(other), at(1, "a"+other)), row(2, 1+len(other), at(1, other))}},
			{other + "#b", []word.Row{row(1, end, at(1, other+"#b"))}},
			{other + "\t#b", []word.Row{row(1, 1+len(other), at(1, other))}},
		})
	}
}

// TestRowsRemarks: P18.1, a word that begins with # and everything behind it in its line do not count; inside a word # is a byte as others.
func TestRowsRemarks(t *testing.T) {
	checkRows(t, []rowsCase{
		{"#a\nb", []word.Row{row(2, 2, at(1, "b"))}},
		{"a #", []word.Row{row(1, 2, at(1, "a"))}},
		{"a #b", []word.Row{row(1, 2, at(1, "a"))}},
		{"a\t#b", []word.Row{row(1, 2, at(1, "a"))}},
		{"a   #b c\td #e f", []word.Row{row(1, 2, at(1, "a"))}},
		{"a b # c", []word.Row{row(1, 4, at(1, "a"), at(3, "b"))}},
		{"a #b\nc", []word.Row{row(1, 2, at(1, "a")), row(2, 2, at(1, "c"))}},
		{" # a\n b # c\n#\nd ## e", []word.Row{row(2, 3, at(2, "b")), row(4, 2, at(1, "d"))}},
		{"a#", []word.Row{row(1, 3, at(1, "a#"))}},
		{"a#b c", []word.Row{row(1, 6, at(1, "a#b"), at(5, "c"))}},
		{"a## b", []word.Row{row(1, 6, at(1, "a##"), at(5, "b"))}},
		{"a# #b", []word.Row{row(1, 3, at(1, "a#"))}},
		{"-#- #", []word.Row{row(1, 4, at(1, "-#-"))}},
		{"a # \u00e4\xff\x00\r b\nc", []word.Row{row(1, 2, at(1, "a")), row(2, 2, at(1, "c"))}},
		{"a #\rb\nc", []word.Row{row(1, 2, at(1, "a")), row(2, 2, at(1, "c"))}},
		{"\uff03a", []word.Row{row(1, 5, at(1, "\uff03a"))}},
	})
}

// TestRowsBytes: P18.1, positions count bytes, also of words of runes of several bytes, and of bytes that are no runes.
func TestRowsBytes(t *testing.T) {
	checkRows(t, []rowsCase{
		{"\u00e4 b", []word.Row{row(1, 5, at(1, "\u00e4"), at(4, "b"))}},
		{" \u20ac\u20ac \U0001f308 z", []word.Row{row(1, 15, at(2, "\u20ac\u20ac"), at(9, "\U0001f308"), at(14, "z"))}},
		{"\u00e4\u00f6\n\u00fc", []word.Row{row(1, 5, at(1, "\u00e4\u00f6")), row(2, 3, at(1, "\u00fc"))}},
		{"\xff b", []word.Row{row(1, 4, at(1, "\xff"), at(3, "b"))}},
		{"\xe2\x82 \xac b", []word.Row{row(1, 7, at(1, "\xe2\x82"), at(4, "\xac"), at(6, "b"))}},
		{"\xf0\x9f\n\x8c\x88", []word.Row{row(1, 3, at(1, "\xf0\x9f")), row(2, 3, at(1, "\x8c\x88"))}},
		{"\xf0\t\xf0\n\xf0#\xf0 #\xf0", []word.Row{row(1, 4, at(1, "\xf0"), at(3, "\xf0")), row(2, 4, at(1, "\xf0#\xf0"))}},
		{"\ufffd\xff\ufffd x", []word.Row{row(1, 10, at(1, "\ufffd\xff\ufffd"), at(9, "x"))}},
	})
}

// TestRowsOwn: P18.1 and 0.5, what a caller does with the rows of a text changes neither its other rows nor what comes later.
func TestRowsOwn(t *testing.T) {
	text := "a b\nc d\n\ne"
	want := []word.Row{row(1, 4, at(1, "a"), at(3, "b")), row(2, 4, at(1, "c"), at(3, "d")), row(4, 2, at(1, "e"))}
	first := word.Rows(text)
	for i := range first {
		_ = append(first[i].Words, at(9, "more"))
	}
	checkRows(t, []rowsCase{{text, want}})
	if !slices.EqualFunc(first, want, sameRow) {
		t.Errorf("what is put behind the words of a row changes another: %s", shown(first))
	}
	for i := range first {
		for k := range first[i].Words {
			first[i].Words[k] = word.Token{}
		}
	}
	checkRows(t, []rowsCase{{text, want}})
}

// TestLine: P18.1, by cases.
func TestLine(t *testing.T) {
	for _, c := range []struct {
		words []string
		want  string
	}{
		{nil, "\n"},
		{[]string{}, "\n"},
		{[]string{""}, "\n"},
		{[]string{"", ""}, " \n"},
		{[]string{"", "", ""}, "  \n"},
		{[]string{"a"}, "a\n"},
		{[]string{"a", "b"}, "a b\n"},
		{[]string{"b", "a", "b"}, "b a b\n"},
		{[]string{"a", "", "b"}, "a  b\n"},
		{[]string{"", "a"}, " a\n"},
		{[]string{"a", ""}, "a \n"},
		{[]string{" ", "\t", "\n"}, "  \t \n\n"},
		{[]string{"a b", "#c", "\u20ac\xff"}, "a b #c \u20ac\xff\n"},
	} {
		if got := word.Line(c.words...); got != c.want {
			t.Errorf("the line of %q: %q, want %q", c.words, got, c.want)
		}
	}
}

// TestLineArguments: P18.1 and 0.5, the words are as they were, and those beyond the list's length do not count.
func TestLineArguments(t *testing.T) {
	all := []string{"a", "b", "c", "d"}
	if got := word.Line(all[:2]...); got != "a b\n" {
		t.Errorf("the line of two words of four: %q", got)
	}
	if want := []string{"a", "b", "c", "d"}; !slices.Equal(all, want) {
		t.Errorf("the words are %q, and were %q", all, want)
	}
}
