package sample_test

import (
	"slices"
	"testing"

	"revetment/sample"
)

func TestTexts(t *testing.T) {
	if got, want := sample.Texts("a\xff", 2), []string{"", "a", "\xff", "aa", "a\xff", "\xffa", "\xff\xff"}; !slices.Equal(got, want) {
		t.Errorf("Texts = %q, want %q", got, want)
	}
	if got := sample.Texts("abc", 0); !slices.Equal(got, []string{""}) {
		t.Errorf("Texts of no letters = %q", got)
	}
	if got := len(sample.Texts("abcd", 5)); got != 1+4+16+64+256+1024 {
		t.Errorf("there are %d texts", got)
	}
}
