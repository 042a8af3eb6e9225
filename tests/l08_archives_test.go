package tests

import (
	"fmt"
	"slices"
	"strings"
	"testing"

	"loop.example/g01157/impl"
)

const mostArchived = impl.MaxArchive * (impl.MaxStored + 4)

// wantEntries requires EntriesOf to return these entries.
func wantEntries(t *testing.T, what, archive string, want ...string) {
	t.Helper()
	entries, ok := impl.EntriesOf(archive)
	wantListOk(t, "EntriesOf "+what, entries, ok, want)
}

// wantArchive requires an archive of these texts, from which they come back.
func wantArchive(t *testing.T, what string, texts ...string) string {
	t.Helper()
	archive, ok := impl.ArchiveOf(texts)
	wantOk(t, "ArchiveOf "+what, archive, ok, archiveByRule(texts...))
	wantEntries(t, what, archive, texts...)
	return archive
}

func TestArchives(t *testing.T) {
	c := chance(550)
	archive, ok := impl.ArchiveOf([]string{"", "x", "abc"})
	wantOk(t, "the hexadecimal digits of an archive", fmt.Sprintf("%x", archive), ok, "00000000010000007803000000616263")
	archive, ok = impl.ArchiveOf([]string{})
	wantOk(t, "ArchiveOf an empty list", archive, ok, "")
	wantArchive(t, "no texts")
	wantArchive(t, "an empty text", "")
	wantArchive(t, "empty texts", "", "", "")
	many := slices.Repeat([]string{"abc", ""}, 10)
	wantArchive(t, "the beginning of many texts", many[:3]...)
	wantArchive(t, "the most of many texts", many[:impl.MaxArchive]...)
	for count := range impl.MaxArchive + 1 {
		for range 20 {
			texts := make([]string, count)
			for i := range texts {
				texts[i] = c.anyText(c.below(600))
			}
			wantArchive(t, "texts", texts...)
		}
		wantArchive(t, "empty texts", make([]string, count)...)
		wantArchive(t, "the longest texts", slices.Repeat([]string{c.anyText(impl.MaxStored)}, count)...)
	}
}

func TestArchivesOfOtherTexts(t *testing.T) {
	c := chance(551)
	for _, count := range []int{impl.MaxArchive + 1, impl.MaxArchive + 2, 100} {
		for _, text := range []string{"", "x", c.anyText(impl.MaxStored)} {
			archive, ok := impl.ArchiveOf(slices.Repeat([]string{text}, count))
			wantFailure(t, "ArchiveOf too many texts", archive, ok)
		}
	}
	for _, length := range []int{impl.MaxStored + 1, impl.MaxStored + 2, 1 << 16, 1 << 18} {
		for count := 1; count <= impl.MaxArchive; count++ {
			for place := range count {
				texts := slices.Repeat([]string{"abc"}, count)
				texts[place] = string(make([]byte, length))
				archive, ok := impl.ArchiveOf(texts)
				wantFailure(t, "ArchiveOf too long a text", archive, ok)
			}
		}
	}
}

// Entries are taken up to the first one that is cut, in its length or in its
// bytes.
func TestArchivesThatAreCut(t *testing.T) {
	c := chance(552)
	texts := []string{"abc", "", c.anyText(300), "x", c.anyText(7), "", c.anyText(40), "end"}
	archive := wantArchive(t, "some texts", texts...)
	for length := range len(archive) + 1 {
		whole, rest := 0, length
		for whole < len(texts) && rest >= 4+len(texts[whole]) {
			rest -= 4 + len(texts[whole])
			whole++
		}
		wantEntries(t, "an archive that is cut", archive[:length], texts[:whole]...)
	}
	longest := archiveByRule(c.anyText(impl.MaxStored), "abc", c.anyText(impl.MaxStored))
	for _, length := range []int{0, 3, 4, 5, impl.MaxStored + 3, impl.MaxStored + 4, impl.MaxStored + 7, impl.MaxStored + 10, impl.MaxStored + 11, len(longest) - 1, len(longest)} {
		entries, ok := impl.EntriesOf(longest[:length])
		wantListOk(t, "EntriesOf long ones that are cut", entries, ok, entriesByRule(longest[:length]))
	}
}

func TestEntriesThatAreTooLong(t *testing.T) {
	long := string(make([]byte, impl.MaxStored+1000))
	for _, size := range []int64{impl.MaxStored + 1, impl.MaxStored + 2, 1 << 16, 1 << 24, 1<<31 - 1, 1 << 31, 1<<32 - 1} {
		for count := range impl.MaxArchive {
			texts := slices.Repeat([]string{"abc"}, count)
			for _, rest := range []string{"", "abc", archiveByRule("abc", "abc"), long} {
				wantEntries(t, "an archive with too long an entry", archiveByRule(texts...)+wordBytes(size)+rest, texts...)
			}
		}
	}
	for _, size := range []int64{1, 4, 255, 256, impl.MaxStored - 1, impl.MaxStored} {
		whole := string(make([]byte, size))
		wantEntries(t, "an archive with an entry", wordBytes(size)+whole, whole)
		wantEntries(t, "an archive with a byte behind", wordBytes(size)+whole+"x", whole)
		wantEntries(t, "an archive that has a byte less than told", wordBytes(size)+whole[1:])
		wantEntries(t, "an archive with an entry before", archiveByRule("abc")+wordBytes(size)+whole[1:], "abc")
	}
}

// Bytes behind the last of MaxArchive entries are left out, also if they are
// whole entries.
func TestArchivesWithMoreEntries(t *testing.T) {
	c := chance(553)
	texts := make([]string, impl.MaxArchive)
	for i := range texts {
		texts[i] = c.anyText(c.below(50))
	}
	archive := wantArchive(t, "the most texts", texts...)
	for _, end := range []string{"x", "\x00\x00\x00", archiveByRule(""), archiveByRule("abc"), archiveByRule(texts...), "\xff\xff\xff\xff", string(make([]byte, 5000))} {
		wantEntries(t, "more entries", archive+end, texts...)
	}
	wantEntries(t, "empty entries", string(make([]byte, 4000)), make([]string, impl.MaxArchive)...)
	for _, end := range []string{"x", "\x00\x00\x00", "\xff\xff\xff\xff", "\x09\x00\x00\x00abc"} {
		wantEntries(t, "bytes behind", archiveByRule(texts[:3]...)+end, texts[:3]...)
	}
}

func TestArchivesOfTheMostBytes(t *testing.T) {
	c := chance(554)
	texts := slices.Repeat([]string{c.anyText(impl.MaxStored)}, impl.MaxArchive)
	archive := wantArchive(t, "the most bytes", texts...)
	wantValue(t, "the most bytes", len(archive), mostArchived)
	wantEntries(t, "the most bytes less one", archive[:mostArchived-1], texts[:7]...)
	wantEntries(t, "the most bytes behind an entry", archiveByRule("abc")+"\xff"+archive[8:], "abc")
	for _, end := range []int{1, 2, 4, 20000} {
		entries, ok := impl.EntriesOf(archive + string(make([]byte, end)))
		wantListFailure(t, "EntriesOf too many bytes", entries, ok)
		found, index, ok := impl.LastIntact(archive + string(make([]byte, end)))
		wantFailed(t, "LastIntact of too many bytes", several{found, index}, ok)
	}
	stored := archiveByRule(storedByRule(toldStates()[0]))
	padded := stored + strings.Repeat("\xff", mostArchived-len(stored))
	wantEntries(t, "the most bytes with one entry", padded, stored[4:])
	wantLastIntact(t, "the most bytes with one entry", padded, toldStates()[0], 0)
	entries, ok := impl.EntriesOf(padded + "\xff")
	wantListFailure(t, "EntriesOf one byte more", entries, ok)
	found, index, ok := impl.LastIntact(padded + "\xff")
	wantFailed(t, "LastIntact of one byte more", several{found, index}, ok)
}

func wantLastIntact(t *testing.T, what, archive string, want impl.TrainState, wantIndex int64) {
	t.Helper()
	found, index, ok := impl.LastIntact(archive)
	wantStateOk(t, "LastIntact of "+what, found, ok, want)
	wantValue(t, "the index in "+what, index, wantIndex)
}

func wantNoneIntact(t *testing.T, what, archive string) {
	t.Helper()
	found, index, ok := impl.LastIntact(archive)
	wantFailed(t, "LastIntact of "+what, several{found, index}, ok)
}

func TestLastIntact(t *testing.T) {
	told := toldStates()
	one, two := storedByRule(told[0]), storedByRule(told[1])
	changed := two[:20] + "\x7f" + two[21:]
	wantLastIntact(t, "one entry", archiveByRule(one), told[0], 0)
	wantLastIntact(t, "two entries", archiveByRule(one, two), told[1], 1)
	wantLastIntact(t, "two entries around", archiveByRule(two, one), told[0], 1)
	wantLastIntact(t, "one entry twice", archiveByRule(one, one), told[0], 1)
	wantLastIntact(t, "a last one that is none", archiveByRule(one, two, "x"), told[1], 1)
	wantLastIntact(t, "a last one that is empty", archiveByRule(one, ""), told[0], 0)
	wantLastIntact(t, "a last one that is changed", archiveByRule(one, changed), told[0], 0)
	wantLastIntact(t, "a last one that is cut inside", archiveByRule(one, two[:48]), told[0], 0)
	wantLastIntact(t, "some that are none", archiveByRule("", one, "x", changed, two, "", "abc", one[1:]), told[1], 4)
	wantLastIntact(t, "the most entries", archiveByRule("", "", "", "", "", "", "", two), told[1], 7)
	wantLastIntact(t, "one entry more", archiveByRule("", "", one, "", "", "", "", "", two), told[0], 2)
	wantLastIntact(t, "a patch behind", archiveByRule(one, patchByRule(told[0], told[1])), told[0], 0)
	wantLastIntact(t, "bytes behind", archiveByRule(one)+"\xff\xff\xff\xff", told[0], 0)
	wantLastIntact(t, "too long an entry before one", archiveByRule(one)+"\x21\x4e\x00\x00"+archiveByRule(two), told[0], 0)
	wantNoneIntact(t, "an empty archive", "")
	wantNoneIntact(t, "an entry that is empty", archiveByRule(""))
	wantNoneIntact(t, "entries that are none", archiveByRule("x", changed, "", one[:20], one+"x"))
	wantNoneIntact(t, "the most entries that are none", archiveByRule("", "", "", "", "", "", "", "", one))
	wantNoneIntact(t, "a stored training alone", one)
	wantNoneIntact(t, "too long an entry", "\x21\x4e\x00\x00"+archiveByRule(one))
	wantNoneIntact(t, "three bytes", "\x00\x00\x00")
}

// An archive that is cut has the last training that is whole.
func TestLastIntactOfArchivesThatAreCut(t *testing.T) {
	c := chance(555)
	var states []impl.TrainState
	var texts []string
	for range impl.MaxArchive {
		m := model(c.smallLayer(impl.LayerDense, 1, 1+int64(c.below(3))))
		states = append(states, c.storable(m, c.below(3), c.mixedList))
		texts = append(texts, storedByRule(states[len(states)-1]))
	}
	archive := wantArchive(t, "trainings", texts...)
	for length := range len(archive) + 1 {
		whole := len(entriesByRule(archive[:length]))
		if whole == 0 {
			wantNoneIntact(t, "an archive that is cut", archive[:length])
		} else {
			wantLastIntact(t, "an archive that is cut", archive[:length], states[whole-1], int64(whole-1))
		}
	}
}

// Bytes of any kind have the entries that the document tells, and the last
// state among them.
func TestAnyBytesAreArchivesByTheRule(t *testing.T) {
	c := chance(556)
	told := toldStates()
	one, two := storedByRule(told[0]), storedByRule(told[1])
	whole := []byte(archiveByRule(one, "abc", two, "", one))
	for range 5000 {
		other := slices.Clone(whole)
		for range 1 + c.below(4) {
			other[c.below(len(other))] = byte(c.below(64))
		}
		archive := string(other[:len(other)-c.below(40)])
		entries, ok := impl.EntriesOf(archive)
		want := entriesByRule(archive)
		wantListOk(t, "EntriesOf any bytes", entries, ok, want)
		last := -1
		for i, entry := range want {
			if _, ok := loadByRule(entry); ok {
				last = i
			}
		}
		if last < 0 {
			wantNoneIntact(t, "any bytes", archive)
			continue
		}
		state, _ := loadByRule(want[last])
		wantLastIntact(t, "any bytes", archive, state, int64(last))
	}
}
