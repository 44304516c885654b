package subst_test

import (
	"testing"

	"tableau/sample"
	"tableau/subst"
	"tableau/trial"
)

// TestErrors: models that are not well formed, stacks of other sizes, and none; of several errors the least.
func TestErrors(t *testing.T) {
	if fault := trial.ErrorFault(subst.Sweep); fault != "" {
		t.Errorf("P22, errors: %s", fault)
	}
}

// TestMemory: with models of each kind, and stacks behind each kind of step.
func TestMemory(t *testing.T) {
	for seed := range 200 {
		if fault := trial.MemoryFault(subst.Sweep, sample.Prunable(seed)); fault != "" {
			t.Errorf("P22, memory, of %v: %s", sample.Prunable(seed), fault)
		}
		if fault := trial.MemoryFault(subst.Sweep, freed(seed)); fault != "" {
			t.Errorf("P22, memory, of %v: %s", freed(seed), fault)
		}
	}
	for i, m := range sample.Models() {
		if fault := trial.MemoryFault(subst.Sweep, m); fault != "" {
			t.Errorf("P22, memory, model %d: %s", i, fault)
		}
	}
}
