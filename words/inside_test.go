package words

import "testing"

// P1.3: whoever goes through the fields may stop at any of them; a range function that went on then would panic.

func TestFieldsOfMayBeLeft(t *testing.T) {
	for line, want := range map[string]string{"a b c": "a", `"a" b c`: "a", `a`: "a", `"a"`: "a", "é a": ""} {
		for f := range fieldsOf(line) {
			if f.S != want {
				t.Errorf("the first field of %q: %q", line, f.S)
			}
			break
		}
	}
}
